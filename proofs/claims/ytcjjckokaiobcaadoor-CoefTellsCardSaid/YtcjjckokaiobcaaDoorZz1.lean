/- Texts of the seat, joined. -/
import Derived.Below
import Derived.Orders
import Derived.CallsIn
import Derived.Deep.MidRow
import Derived.KernelRfl
import Derived.ChangeKeysEq
import Derived.Laws.StructEq
import Derived.RangeFuncRecord
import Derived.Laws.AppendOwn
import Derived.RangeFuncSeq
import Derived.Laws.Externs
import Derived.Laws.Tables
/- A walk by computation: values whose blocks are numbered anew, and what an operation makes of them. -/
namespace Go.Proofs.YtcjjckokaiobcaaDoor
open Go Go.RowKit
set_option linter.unusedSimpArgs false
set_option linter.unusedVariables false

/-- Where blocks lie, and how much room the slices of an open one have. -/
abbrev Num := Nat → Nat × Nat
/-- The room of such a slice is told with its block. -/
def capU : Nat := 18446744073709551616
def idN : Num := fun i => (i, capU)
def capR (x : Nat × Nat) (c : Nat) : Nat := if c = capU then x.2 else c
theorem capR_ne {x : Nat × Nat} {c : Nat} (h : c ≠ capU) : capR x c = c := if_neg h
theorem capR_id (i c : Nat) : capR (idN i) c = c := by
  unfold capR idN
  split
  · rename_i h; exact h.symm
  · rfl
/-- How far a block's cells lie from where they are counted: told of windows alone, with their room. -/
def shf (x : Nat × Nat) : Nat := x.2 - capU
theorem shf0 {x : Nat × Nat} (h : x.2 ≤ capU) : shf x = 0 := Nat.sub_eq_zero_of_le h
theorem shf_id (i : Nat) : shf (idN i) = 0 := shf0 (Nat.le_refl _)
theorem shf_zero (n : Nat) : shf (n, 0) = 0 := shf0 (Nat.zero_le _)
theorem shf_eq (x : Nat × Nat) : shf x = x.2 - capU := rfl
/-- A slice's room is its own. -/
def okCap : Value → Bool
  | .slice (some _) _ c => !(Nat.beq c capU)
  | _ => true
def renF (β : Num) : Fn → Fn
  | .yield l => .yield (β l).1
  | .func f => .func f
  | .method n => .method n
  | .methodOf t n => .methodOf t n
  | .via t p f b => .via t p f b

def renP (β : Num) (a : Addr) : Addr := { block := (β a.block).1, off := a.off + shf (β a.block), spot := a.spot }
theorem renP_id (a : Addr) : renP idN a = a := by
  unfold renP
  rw [shf_id]
  rfl

mutual
/-- A value whose blocks get other numbers. -/
def ren (β : Num) : Value → Value
  | .bool b => .bool b
  | .int k n => .int k n
  | .float k n => .float k n
  | .complex k x y => .complex k x y
  | .string s => .string s
  | .pointer none => .pointer none
  | .pointer (some a) => .pointer (some (renP β a))
  | .slice none l c => .slice none l c
  | .slice (some a) l c => .slice (some (renP β a)) l (capR (β a.block) c)
  | .map none => .map none
  | .map (some r) => .map (some (β r).1)
  | .chan none => .chan none
  | .chan (some r) => .chan (some (β r).1)
  | .func fn first captured => .func (renF β fn) (renA β first) (renA β captured)
  | .nilFunc => .nilFunc
  | .iface t v => .iface t (ren β v)
  | .nilIface => .nilIface
  | .agg cs => .agg (renA β cs)
  | .tuple vs => .tuple (renA β vs)
def renA (β : Num) : Array Value → Array Value
  | ⟨l⟩ => ⟨renL β l⟩
def renL (β : Num) : List Value → List Value
  | [] => []
  | v :: l => ren β v :: renL β l
end

def wfF (p : Nat → Bool) : Fn → Bool
  | .yield l => p l
  | .func _ => true
  | .method _ => true
  | .methodOf _ _ => true
  | .via _ _ _ _ => true

mutual
/-- The test holds of the numbers of all its blocks. -/
def wfV (p : Nat → Bool) : Value → Bool
  | .bool _ => true
  | .int _ _ => true
  | .float _ _ => true
  | .complex _ _ _ => true
  | .string _ => true
  | .pointer none => true
  | .pointer (some a) => p a.block
  | .slice none _ _ => true
  | .slice (some a) _ _ => p a.block
  | .map none => true
  | .map (some r) => p r
  | .chan none => true
  | .chan (some r) => p r
  | .func fn first captured => wfF p fn && wfA p first && wfA p captured
  | .nilFunc => true
  | .iface _ v => wfV p v
  | .nilIface => true
  | .agg cs => wfA p cs
  | .tuple vs => wfA p vs
def wfA (p : Nat → Bool) : Array Value → Bool
  | ⟨l⟩ => wfL p l
def wfL (p : Nat → Bool) : List Value → Bool
  | [] => true
  | v :: l => wfV p v && wfL p l
end

theorem renL_map (β : Num) : ∀ l, renL β l = l.map (ren β)
  | [] => rfl
  | v :: l => by rw [renL, renL_map β l]; rfl
theorem renA_map (β : Num) (a : Array Value) : renA β a = a.map (ren β) := by
  obtain ⟨l⟩ := a
  rw [renA, renL_map]
  simp
theorem wfL_all (p : Nat → Bool) : ∀ l, wfL p l = true ↔ ∀ v ∈ l, wfV p v = true
  | [] => by simp [wfL]
  | v :: l => by rw [wfL, Bool.and_eq_true, wfL_all p l]; simp
theorem wfA_list (p : Nat → Bool) (a : Array Value) : wfA p a = wfL p a.toList := by
  obtain ⟨l⟩ := a
  rfl
theorem renF_congr {β γ : Num} {p : Nat → Bool} (h : ∀ i, p i = true → β i = γ i) {f : Fn} (hw : wfF p f = true) : renF β f = renF γ f := by
  cases f with
  | yield l => simp only [wfF] at hw; simp only [renF, h l hw]
  | _ => rfl
mutual
theorem ren_congr {β γ : Num} {p : Nat → Bool} (h : ∀ i, p i = true → β i = γ i) : ∀ (v : Value), wfV p v = true → ren β v = ren γ v
  | .bool b, _ => rfl
  | .int k m, _ => rfl
  | .float k m, _ => rfl
  | .complex k x y, _ => rfl
  | .string s, _ => rfl
  | .pointer none, _ => rfl
  | .pointer (some a), hw => by simp only [wfV] at hw; simp only [ren, renP, h _ hw]
  | .slice none l c, _ => rfl
  | .slice (some a) l c, hw => by simp only [wfV] at hw; simp only [ren, renP, h _ hw]
  | .map none, _ => rfl
  | .map (some r), hw => by simp only [wfV] at hw; simp only [ren, h _ hw]
  | .chan none, _ => rfl
  | .chan (some r), hw => by simp only [wfV] at hw; simp only [ren, h _ hw]
  | .func fn first captured, hw => by
    simp only [wfV, Bool.and_eq_true] at hw
    simp only [ren, renF_congr h hw.1.1, renA_congr h first hw.1.2, renA_congr h captured hw.2]
  | .nilFunc, _ => rfl
  | .iface t v, hw => by simp only [wfV] at hw; simp only [ren, ren_congr h v hw]
  | .nilIface, _ => rfl
  | .agg cs, hw => by simp only [wfV] at hw; simp only [ren, renA_congr h cs hw]
  | .tuple cs, hw => by simp only [wfV] at hw; simp only [ren, renA_congr h cs hw]
theorem renA_congr {β γ : Num} {p : Nat → Bool} (h : ∀ i, p i = true → β i = γ i) : ∀ (v : Array Value), wfA p v = true → renA β v = renA γ v
  | ⟨l⟩, hw => by simp only [wfA] at hw; simp only [renA, renL_congr h l hw]
theorem renL_congr {β γ : Num} {p : Nat → Bool} (h : ∀ i, p i = true → β i = γ i) : ∀ (v : List Value), wfL p v = true → renL β v = renL γ v
  | [], _ => rfl
  | v :: l, hw => by
    simp only [wfL, Bool.and_eq_true] at hw
    simp only [renL, ren_congr h v hw.1, renL_congr h l hw.2]
end
theorem wfF_mono {p q : Nat → Bool} (h : ∀ i, p i = true → q i = true) {f : Fn} (hw : wfF p f = true) : wfF q f = true := by
  cases f with
  | yield l => simp only [wfF] at hw ⊢; exact h _ hw
  | _ => rfl
mutual
theorem wfV_mono {p q : Nat → Bool} (h : ∀ i, p i = true → q i = true) : ∀ (v : Value), wfV p v = true → wfV q v = true
  | .bool b, _ => rfl
  | .int k _, _ => rfl
  | .float k _, _ => rfl
  | .complex k x y, _ => rfl
  | .string s, _ => rfl
  | .pointer none, _ => rfl
  | .pointer (some a), hw => by simp only [wfV] at hw ⊢; exact h _ hw
  | .slice none l c, _ => rfl
  | .slice (some a) l c, hw => by simp only [wfV] at hw ⊢; exact h _ hw
  | .map none, _ => rfl
  | .map (some r), hw => by simp only [wfV] at hw ⊢; exact h _ hw
  | .chan none, _ => rfl
  | .chan (some r), hw => by simp only [wfV] at hw ⊢; exact h _ hw
  | .func fn first captured, hw => by
    simp only [wfV, Bool.and_eq_true] at hw ⊢
    exact ⟨⟨wfF_mono h hw.1.1, wfA_mono h first hw.1.2⟩, wfA_mono h captured hw.2⟩
  | .nilFunc, _ => rfl
  | .iface t v, hw => by simp only [wfV] at hw ⊢; exact wfV_mono h v hw
  | .nilIface, _ => rfl
  | .agg cs, hw => by simp only [wfV] at hw ⊢; exact wfA_mono h cs hw
  | .tuple cs, hw => by simp only [wfV] at hw ⊢; exact wfA_mono h cs hw
theorem wfA_mono {p q : Nat → Bool} (h : ∀ i, p i = true → q i = true) : ∀ (v : Array Value), wfA p v = true → wfA q v = true
  | ⟨l⟩, hw => by simp only [wfA] at hw ⊢; exact wfL_mono h l hw
theorem wfL_mono {p q : Nat → Bool} (h : ∀ i, p i = true → q i = true) : ∀ (v : List Value), wfL p v = true → wfL q v = true
  | [], _ => rfl
  | v :: l, hw => by
    simp only [wfL, Bool.and_eq_true] at hw ⊢
    exact ⟨wfV_mono h v hw.1, wfL_mono h l hw.2⟩
end
theorem renF_id (f : Fn) : renF idN f = f := by cases f <;> rfl
mutual
theorem ren_id : ∀ (v : Value), ren idN v = v
  | .bool b => rfl
  | .int k m => rfl
  | .float k m => rfl
  | .complex k x y => rfl
  | .string s => rfl
  | .pointer none => rfl
  | .pointer (some a) => by simp only [ren, renP_id]
  | .slice none l c => rfl
  | .slice (some a) l c => by simp only [ren, capR_id, renP_id]
  | .map none => rfl
  | .map (some r) => rfl
  | .chan none => rfl
  | .chan (some r) => rfl
  | .func fn first captured => by simp only [ren, renF_id, renA_id first, renA_id captured]
  | .nilFunc => rfl
  | .iface t v => by simp only [ren, ren_id v]
  | .nilIface => rfl
  | .agg cs => by simp only [ren, renA_id cs]
  | .tuple cs => by simp only [ren, renA_id cs]
theorem renA_id : ∀ (v : Array Value), renA idN v = v
  | ⟨l⟩ => by simp only [renA, renL_id l]
theorem renL_id : ∀ (v : List Value), renL idN v = v
  | [] => rfl
  | v :: l => by simp only [renL, ren_id v, renL_id l]
end
def noB (_ : Nat) : Bool := false
/-- A value without a block is itself. -/
theorem ren_plain (β : Num) {v : Value} (h : wfV noB v = true) : ren β v = v :=
  (ren_congr (p := noB) (fun _ h => (by cases h)) v h).trans (ren_id v)
theorem renA_plain (β : Num) {v : Array Value} (h : wfA noB v = true) : renA β v = v :=
  (renA_congr (p := noB) (fun _ h => (by cases h)) v h).trans (renA_id v)

/-- .. but for the slice's room. -/
def ren0 (β : Num) : Value → Value
  | .slice (some a) l c => .slice (some (renP β a)) l c
  | v => ren β v
theorem ren0_of {β : Num} {v : Value} (h : okCap v = true) : ren0 β v = ren β v := by
  cases v with
  | slice a l c =>
    cases a with
    | none => rfl
    | some a =>
      have hc : c ≠ capU := fun e => by simp [okCap, e] at h
      simp only [ren0, ren, capR_ne hc]
  | _ => rfl
theorem ren_cells (β : Num) (v : Value) : (ren β v).cells = renA β v.cells := by
  cases v with
  | agg cs => rfl
  | pointer a => cases a <;> rfl
  | slice a l c => cases a <;> rfl
  | map r => cases r <;> rfl
  | chan r => cases r <;> rfl
  | _ => rfl
theorem ren_oneCell (β : Num) (v : Value) : (ren β v).oneCell' = v.oneCell' := by
  cases v with
  | pointer a => cases a <;> rfl
  | slice a l c => cases a <;> rfl
  | map r => cases r <;> rfl
  | chan r => cases r <;> rfl
  | _ => rfl

/-- What a computation gives that asks nothing of the world. -/
def calm {α : Type} (P : Program) : Sem α → Option α
  | .pure a => some a
  | .program k => calm P (k P)
  | .mark _ k => calm P k
  | _ => none
theorem calm_run {α : Type} {P : Program} {s : Sem α} {a : α} (h : calm P s = some a) (w : World) : s.run P w = .ok a w := by
  induction s with
  | pure b => simp only [calm, Option.some.injEq] at h; subst h; rfl
  | program k ih => exact ih P h
  | mark m k ih => exact ih h
  | _ => simp [calm] at h
theorem calm_bind {α β : Type} (P : Program) (s : Sem α) (f : α → Sem β) : calm P (s >>= f) = (calm P s).bind fun a => calm P (f a) := by
  show calm P (s.bind f) = _
  induction s with
  | pure b => rfl
  | program k ih => exact ih P
  | mark m k ih => exact ih
  | _ => rfl
@[simp] theorem calm_pure {α : Type} (P : Program) (a : α) : calm P (pure a : Sem α) = some a := rfl
@[simp] theorem calm_stuck {α : Type} (P : Program) (s : String) : calm P (stuck s : Sem α) = none := rfl
@[simp] theorem calm_unsupported {α : Type} (P : Program) (u : Unsupported) : calm P (unsupported u : Sem α) = none := rfl
@[simp] theorem calm_goPanic {α : Type} (P : Program) (v : Value) : calm P (goPanic v : Sem α) = none := rfl

end Go.Proofs.YtcjjckokaiobcaaDoor

/- What package-level variables hold, all along: three tables, one of them of slices. -/
namespace Go.Proofs.YtcjjckokaiobcaaDoor
open Go Go.RowKit

/-- The names. -/
def nmsC : Array Value := ⟨[.string ⟨⟨[108, 101, 97, 112, 102, 114, 111, 103]⟩⟩, .string ⟨⟨[116, 104, 114, 101, 101]⟩⟩, .string ⟨⟨[115, 101, 118, 101, 110]⟩⟩, .string ⟨⟨[102, 105, 102, 116, 101, 101, 110]⟩⟩, .string ⟨⟨[116, 117, 114, 110, 105, 110, 103]⟩⟩]⟩
/-- A step of turns. -/
def turL : List (Nat × Int × Int) := [(1, 1, 4), (3, -8, 17), (1, 1, 4), (2, 1, 1), (1, 1, 4), (3, -8, 17), (1, 1, 4)]
def turC : Array Value := ⟨turL.flatMap fun o => [.int .u8 (Int.ofNat o.1), .int .i64 o.2.1, .int .i64 o.2.2]⟩
/-- The parts. -/
def parL : List (List Int) := [[1000000], [1351207, -1702414, 1351207], [784514, 235573, -1177680, 1315186, -1177680, 235573, 784514],
  [741670, -409101, 190755, -573862, 299064, 334625, 315293, -796888, 315293, 334625, 299064, -573862, 190755, -409101, 741670]]
/-- A slice of ints lies there. -/
def ParAt (w : World) (cs : Array Value) (m : Nat) (L : List Int) : Prop :=
  ∃ b off, cs[m]? = some (.slice (some ⟨b, off, none⟩) L.length L.length) ∧ ∃ c T fr, w.heap[b]? = some (.cells c T fr) ∧ ∀ j x, L[j]? = some x → c[off + j]? = some (.int .i64 x)
structure GL (w : World) : Prop where
  n : ∃ T fr, w.heap[0]? = some (.cells nmsC T fr)
  t : ∃ T fr, w.heap[2]? = some (.cells turC T fr)
  p : ∃ cs T fr, w.heap[1]? = some (.cells cs T fr) ∧ (∃ a, cs[4]? = some (.slice (some a) 0 0)) ∧ ∀ m L, parL[m]? = some L → ParAt w cs m L
/-- Their blocks. -/
def glB (w : World) (g : Nat) : Prop := g = 0 ∨ g = 1 ∨ g = 2 ∨ ∃ cs T fr m off n cap, w.heap[1]? = some (.cells cs T fr) ∧ m < 4 ∧ cs[m]? = some (.slice (some ⟨g, off, none⟩) n cap)
theorem lt_of_some {w : World} {g : Nat} {o : Obj} (h : w.heap[g]? = some o) : g < w.heap.size := (Array.getElem?_eq_some_iff.1 h).1
theorem GL.lt {w : World} (h : GL w) {g : Nat} (hg : glB w g) : g < w.heap.size := by
  rcases hg with rfl | rfl | rfl | ⟨cs, T, fr, m, off, n, cap, h1, hm, h2⟩
  · obtain ⟨_, _, h⟩ := h.n; exact lt_of_some h
  · obtain ⟨_, _, _, h, _⟩ := h.p; exact lt_of_some h
  · obtain ⟨_, _, h⟩ := h.t; exact lt_of_some h
  · obtain ⟨cs', T', fr', h3, _, h4⟩ := h.p
    rw [h1] at h3
    simp only [Option.some.injEq, Obj.cells.injEq] at h3
    obtain ⟨rfl, -, -⟩ := h3
    obtain ⟨b, off', h5, c, T2, fr2, h6, -⟩ := h4 m (parL[m]'hm) (List.getElem?_eq_getElem hm)
    rw [h2] at h5
    simp only [Option.some.injEq, Value.slice.injEq, Addr.mk.injEq] at h5
    rw [h5.1.1]
    exact lt_of_some h6
theorem glB_keep {w w' : World} (hk : ∀ g, glB w g → w'.heap[g]? = w.heap[g]?) {g : Nat} : glB w' g ↔ glB w g := by
  unfold glB
  rw [hk 1 (.inr (.inl rfl))]
theorem GL.keep {w w' : World} (h : GL w) (hk : ∀ g, glB w g → w'.heap[g]? = w.heap[g]?) : GL w' := by
  refine ⟨by rw [hk 0 (.inl rfl)]; exact h.n, by rw [hk 2 (.inr (.inr (.inl rfl)))]; exact h.t, ?_⟩
  obtain ⟨cs, T, fr, h1, h2, h3⟩ := h.p
  refine ⟨cs, T, fr, by rw [hk 1 (.inr (.inl rfl))]; exact h1, h2, fun m L hm => ?_⟩
  obtain ⟨b, off, h4, c, T', fr', h5, h6⟩ := h3 m L hm
  refine ⟨b, off, h4, c, T', fr', ?_, h6⟩
  rw [hk b (.inr (.inr (.inr ⟨cs, T, fr, m, off, _, _, h1, ?_, h4⟩)))]
  · exact h5
  · have := (List.getElem?_eq_some_iff.1 hm).1
    exact this
theorem GL.below {w w' : World} (h : GL w) (hb : Below w.heap.size w w') : GL w' := h.keep fun g hg => hb.block g (h.lt hg)
/-- None of them is a block of ours that is written. -/
def GlA (A : Nat → Prop) (w0 : World) : Prop := GL w0 ∧ ∀ g, glB w0 g → A (2 * g) → A (2 * g + 1)

end Go.Proofs.YtcjjckokaiobcaaDoor

/- A walk by computation: operations that only reckon. -/
namespace Go.Proofs.YtcjjckokaiobcaaDoor
open Go Go.RowKit
set_option linter.unusedSimpArgs false
set_option linter.unusedVariables false
attribute [local irreducible] shf

def renN (β : Num) : Next → Next
  | .value v => .value (ren β v)
  | .enter f args => .enter f (renA β args)
  | n => n

theorem calm_underlying (P : Program) (t : TypeId) : calm P (underlying t) = P.underlying t := by
  unfold underlying
  rw [calm_bind]
  simp only [program, calm, Option.bind_some]
  cases P.underlying t <;> rfl
theorem calm_sizeOf (P : Program) (t : TypeId) : calm P (sizeOf t) = (P.info? t).map (·.size) := by
  unfold sizeOf typeInfo
  rw [calm_bind, calm_bind]
  simp only [program, calm, Option.bind_some]
  cases P.info? t <;> rfl

def safeOp : Op → Bool
  | .move _ => true
  | .assign _ => true
  | .pick _ _ _ => true
  | .fieldAddr _ _ _ => true
  | .indexAddr _ _ _ => true
  | .slice _ _ _ _ _ => true
  | .makeFunc (.func _) _ _ => true
  | .extract _ _ => true
  | .makeInterface _ _ => true
  | .index _ _ _ => true
  | .sliceToArrayPointer _ _ => true
  | _ => false
/-- The function that a value is, with what it has captured. -/
def asFunc : Value → Option (FuncId × Array Value × Array Value)
  | .func (.func f) first captured => some (f, first, captured)
  | _ => none

section
variable {P : Program} {ρ : Operand → Value} {β : Num}

theorem ren_bool {v : Value} {b : Bool} : ren β v = .bool b ↔ v = .bool b := by
  cases v with
  | pointer a => cases a <;> simp [ren]
  | slice a l c => cases a <;> simp [ren]
  | map r => cases r <;> simp [ren]
  | chan r => cases r <;> simp [ren]
  | _ => simp [ren]

theorem calm_asBool (v : Value) : calm P (asBool (ren β v)) = calm P (asBool v) := by
  cases v with
  | pointer a => cases a <;> rfl
  | slice a l c => cases a <;> rfl
  | map r => cases r <;> rfl
  | chan r => cases r <;> rfl
  | _ => rfl
theorem calm_asIntOf (v : Value) : calm P (asIntOf (ren β v)) = calm P (asIntOf v) := by
  cases v with
  | pointer a => cases a <;> rfl
  | slice a l c => cases a <;> rfl
  | map r => cases r <;> rfl
  | chan r => cases r <;> rfl
  | _ => rfl
theorem calm_sureAddr (v : Value) : calm P (Instr.sureAddr (ren β v)) = (calm P (Instr.sureAddr v)).map (renP β) := by
  cases v with
  | pointer a => cases a <;> rfl
  | slice a l c => cases a <;> rfl
  | map r => cases r <;> rfl
  | chan r => cases r <;> rfl
  | _ => rfl
theorem calm_asAddr (v : Value) : calm P (asAddr (ren β v)) = (calm P (asAddr v)).map (renP β) := by
  cases v with
  | pointer a => cases a <;> rfl
  | slice a l c => cases a <;> rfl
  | map r => cases r <;> rfl
  | chan r => cases r <;> rfl
  | _ => rfl
theorem renP_add (a : Addr) (n : Nat) : renP β (a.add n) = (renP β a).add n := by
  unfold Addr.add renP
  split
  · rfl
  · simp only [Nat.add_right_comm]
theorem calm_boundsPanic {α : Type} (k : IntKind) (x y : Int) (c : BoundsCode) : calm P (boundsPanic k x y c : Sem α) = none := by
  unfold boundsPanic
  dsimp only
  split <;> rfl
theorem calm_runtimePanic_nil {α : Type} : calm P (runtimePanic .nilDeref : Sem α) = none := rfl
theorem calm_sliceBound (v : Value) (y : Nat) (c : BoundsCode) : calm P (Instr.sliceBound (ren β v) y c) = calm P (Instr.sliceBound v y c) := by
  unfold Instr.sliceBound
  rw [calm_bind, calm_bind, calm_asIntOf]
theorem calm_sliceBounds (s : Bool) (l c : Nat) (lo hi mx : Option Value) : calm P (Instr.sliceBounds s l c (lo.map (ren β)) (hi.map (ren β)) (mx.map (ren β))) = calm P (Instr.sliceBounds s l c lo hi mx) := by
  unfold Instr.sliceBounds
  cases lo <;> cases hi <;> cases mx <;> simp only [Option.map_none, Option.map_some, calm_bind, calm_sliceBound, Option.isSome_none, Option.isSome_some]

theorem calm_fieldPlace (a : Addr) (f : Field) : calm P (fieldPlace (renP β a) f) = (calm P (fieldPlace a f)).map (renP β) := by
  unfold fieldPlace
  rw [calm_bind, calm_bind, calm_sizeOf]
  cases P.info? f.type with
  | none => rfl
  | some i =>
    simp only [Option.map_some, Option.bind_some]
    split
    · unfold partAt
      simp only [calm_bind]
      have e : ∀ x : Addr, x.spot = none → calm P (byteOf x) = none := by
        intro x hx
        unfold byteOf
        simp only [hx]
        rfl
      cases hs : a.spot with
      | none =>
        rw [e _ hs, e (renP β a) hs]
        rfl
      | some s =>
        have h1 : calm P (byteOf a) = some s := by unfold byteOf; simp only [hs]; rfl
        have h2 : calm P (byteOf (renP β a)) = some s := by unfold byteOf; simp only [renP, hs]; rfl
        rw [h1, h2]
        simp only [Option.bind_some, calm_pure]
        rw [e _ rfl, e _ rfl]
        rfl
    · simp only [calm_pure, Option.map_some, renP_add]

theorem fst_eq {α : Type} {a b : Option α} (h : a = b) (f : α → Option Value) : a.bind f = b.bind f := by rw [h]

theorem calm_indexAt (t : TypeId) (x i : Value) : calm P (Instr.indexAt t (ren β x) (ren β i)) = (calm P (Instr.indexAt t x i)).map (ren β) := by
  unfold Instr.indexAt
  simp only [calm_bind, calm_asIntOf, calm_underlying]
  cases hI : calm P (asIntOf i) with
  | none => rfl
  | some ki =>
    obtain ⟨k, i⟩ := ki
    simp only [Option.bind_some]
    cases hu : P.underlying t with
    | none => rfl
    | some d =>
      simp only [Option.bind_some]
      cases d with
      | array len elem =>
        simp only [calm_bind, calm_sureAddr]
        cases calm P (Instr.sureAddr x) with
        | none => rfl
        | some a =>
          simp only [Option.map_some, Option.bind_some, calm_pure, calm_bind, calm_underlying, hu]
          by_cases h : 0 ≤ i ∧ i < (len : Int)
          · simp only [if_pos h, calm_bind, calm_sizeOf]
            cases P.info? elem with
            | none => rfl
            | some i => simp only [Option.map_some, Option.bind_some, calm_pure, ren, renP_add]
          · simp only [if_neg h]
            split
            · rfl
            · simp only [calm_boundsPanic, Option.map_none]
      | slice elem =>
        cases x with
        | slice a l c =>
          cases a with
          | none =>
            simp only [ren, calm_pure, Option.bind_some, calm_bind, calm_underlying, hu, calm_boundsPanic, Option.map_none]
          | some a =>
            simp only [ren, calm_pure, Option.bind_some, calm_bind, calm_underlying, hu]
            by_cases h : 0 ≤ i ∧ i < (l : Int)
            · simp only [if_pos h, calm_bind, calm_sizeOf]
              cases P.info? elem with
              | none => rfl
              | some i => simp only [Option.map_some, Option.bind_some, calm_pure, ren, renP_add]
            · simp only [if_neg h, Bool.and_false, Bool.false_eq_true, if_false, calm_boundsPanic, Option.map_none]
        | pointer a => cases a <;> rfl
        | map r => cases r <;> rfl
        | chan r => cases r <;> rfl
        | _ => rfl
      | _ => rfl

theorem calm_sureAddr0 (v : Value) : calm P (Instr.sureAddr (ren0 β v)) = (calm P (Instr.sureAddr v)).map (renP β) := by
  cases v with
  | pointer a => cases a <;> rfl
  | slice a l c => cases a <;> rfl
  | map r => cases r <;> rfl
  | chan r => cases r <;> rfl
  | _ => rfl
theorem calm_asAddr0 (v : Value) : calm P (asAddr (ren0 β v)) = (calm P (asAddr v)).map (renP β) := by
  cases v with
  | pointer a => cases a <;> rfl
  | slice a l c => cases a <;> rfl
  | map r => cases r <;> rfl
  | chan r => cases r <;> rfl
  | _ => rfl
theorem ren_slice_addr (m l : Nat) (a : Addr) (s x y : Nat) : ren0 β (.slice (some (if m = l then a else a.add s)) x y) = .slice (some (if m = l then renP β a else (renP β a).add s)) x y := by
  split <;> simp only [ren0, renP_add]

theorem calm_sliceAt (t : TypeId) (x : Value) (lo hi mx : Option Value) : calm P (Instr.sliceAt t (ren0 β x) (lo.map (ren β)) (hi.map (ren β)) (mx.map (ren β))) = (calm P (Instr.sliceAt t x lo hi mx)).map (ren0 β) := by
  unfold Instr.sliceAt
  simp only [calm_bind, calm_underlying]
  cases hu : P.underlying t with
  | none => rfl
  | some d =>
    simp only [Option.bind_some]
    have gen : (∀ n e, d ≠ .array n e) → calm P (Instr.slice t (ren0 β x) (lo.map (ren β)) (hi.map (ren β)) (mx.map (ren β))) = (calm P (Instr.slice t x lo hi mx)).map (ren0 β) := by
      intro hd
      unfold Instr.slice
      simp only [calm_bind, calm_underlying, hu, Option.bind_some]
      cases d with
      | string =>
        cases x with
        | string s =>
          simp only [ren0, ren, Option.isSome_map]
          split
          · rfl
          · have e := calm_sliceBounds (P := P) (β := β) false s.size s.size lo hi none
            rw [Option.map_none] at e
            simp only [calm_bind, e]
            cases calm P (Instr.sliceBounds false s.size s.size lo hi none) with
            | none => rfl
            | some r => rfl
        | pointer a => cases a <;> rfl
        | slice a l c => cases a <;> rfl
        | map r => cases r <;> rfl
        | chan r => cases r <;> rfl
        | _ => rfl
      | slice elem =>
        cases x with
        | slice a l c =>
          cases a with
          | none =>
            simp only [ren0, ren, calm_bind, calm_sliceBounds]
            cases calm P (Instr.sliceBounds true l c lo hi mx) with
            | none => rfl
            | some r =>
              simp only [Option.bind_some, calm_sizeOf]
              cases P.info? elem with
              | none => rfl
              | some i => simp only [Option.map_some, Option.bind_some, calm_pure, Option.map_none, ite_self, ren0, ren]
          | some a =>
            simp only [ren0, ren, calm_bind, calm_sliceBounds]
            cases calm P (Instr.sliceBounds true l c lo hi mx) with
            | none => rfl
            | some r =>
              simp only [Option.bind_some, calm_sizeOf]
              cases P.info? elem with
              | none => rfl
              | some i =>
                simp only [Option.map_some, Option.bind_some, calm_pure, Option.map_none]
                split <;> simp only [ren0, renP_add]
        | pointer a => cases a <;> rfl
        | map r => cases r <;> rfl
        | chan r => cases r <;> rfl
        | _ => rfl
      | pointer arr =>
        simp only [calm_bind, calm_asAddr0]
        cases calm P (asAddr x) with
        | none => rfl
        | some a =>
          simp only [Option.map_some, Option.bind_some, calm_underlying]
          cases P.underlying arr with
          | none => rfl
          | some d2 =>
            cases d2 with
            | array n elem =>
              simp only [Option.bind_some, calm_bind, calm_sliceBounds]
              cases calm P (Instr.sliceBounds false n n lo hi mx) with
              | none => rfl
              | some r =>
                simp only [Option.bind_some, calm_sizeOf]
                cases P.info? elem with
                | none => rfl
                | some i => simp only [Option.map_some, Option.bind_some, calm_pure, ren_slice_addr]
            | _ => rfl
      | array n e => exact absurd rfl (hd n e)
      | _ => rfl
    cases d with
    | array n elem =>
      simp only [calm_bind, calm_sureAddr0]
      cases calm P (Instr.sureAddr x) with
      | none => rfl
      | some a =>
        simp only [Option.map_some, Option.bind_some, calm_sliceBounds]
        cases calm P (Instr.sliceBounds false n n lo hi mx) with
        | none => rfl
        | some r =>
          simp only [Option.bind_some, calm_sizeOf]
          cases P.info? elem with
          | none => rfl
          | some i => simp only [Option.map_some, Option.bind_some, calm_pure, ren_slice_addr]
    | _ => exact gen (fun _ _ h => by cases h)


theorem renA_get (a : Array Value) (i : Nat) : (renA β a)[i]? = (a[i]?).map (ren β) := by
  rw [renA_map, Array.getElem?_map]
theorem calm_fieldAt (s : TypeId) (x : Value) (f : Nat) : calm P (Instr.fieldAt s (ren β x) f) = (calm P (Instr.fieldAt s x f)).map (ren β) := by
  unfold Instr.fieldAt
  simp only [calm_bind, calm_underlying]
  cases P.underlying s with
  | none => rfl
  | some d =>
    cases d with
    | struct fields =>
      simp only [Option.bind_some]
      cases fields[f]? with
      | none => rfl
      | some f =>
        simp only [calm_bind, calm_sureAddr]
        cases calm P (Instr.sureAddr x) with
        | none => rfl
        | some a =>
          simp only [Option.map_some, Option.bind_some, calm_fieldPlace]
          cases calm P (fieldPlace a f) with
          | none => rfl
          | some a => rfl
    | _ => rfl
theorem calm_extract (x : Value) (i : Nat) : calm P (Instr.extract (ren β x) i) = (calm P (Instr.extract x i)).map (ren β) := by
  cases x with
  | tuple vs =>
    simp only [ren, Instr.extract, renA_get]
    cases vs[i]? <;> rfl
  | pointer a => cases a <;> rfl
  | slice a l c => cases a <;> rfl
  | map r => cases r <;> rfl
  | chan r => cases r <;> rfl
  | _ => rfl
theorem calm_makeInterface (t : TypeId) (x : Value) : calm P (Instr.makeInterface t (ren β x)) = (calm P (Instr.makeInterface t x)).map (ren β) := by
  unfold Instr.makeInterface
  simp only [calm_bind, calm_underlying]
  cases P.underlying t with
  | none => rfl
  | some d => cases d <;> rfl
theorem calm_part (t : TypeId) (cs : Array Value) (off : Nat) : calm P (part t (renA β cs) off) = (calm P (part t cs off)).map (ren β) := by
  unfold part
  rw [calm_bind, calm_bind]
  cases calm P (isAgg t) with
  | none => rfl
  | some b =>
    cases b with
    | false =>
      simp only [Option.bind_some, Bool.false_eq_true, if_false, renA_get]
      cases cs[off]? <;> rfl
    | true =>
      simp only [Option.bind_some, if_true, calm_bind, calm_sizeOf]
      cases P.info? t with
      | none => rfl
      | some i => simp only [Option.map_some, Option.bind_some, calm_pure, ren, renA_map, Array.map_extract]
theorem calm_index (t : TypeId) (x i : Value) : calm P (Instr.index t (ren β x) (ren β i)) = (calm P (Instr.index t x i)).map (ren β) := by
  unfold Instr.index
  simp only [calm_bind, calm_asIntOf, calm_underlying]
  cases hI : calm P (asIntOf i) with
  | none => rfl
  | some ki =>
    obtain ⟨k, i⟩ := ki
    simp only [Option.bind_some]
    cases hu : P.underlying t with
    | none => rfl
    | some d =>
      simp only [Option.bind_some]
      cases d with
      | array len elem =>
        cases x with
        | agg cs =>
          simp only [ren]
          by_cases h : 0 ≤ i ∧ i < (len : Int)
          · simp only [if_pos h, calm_bind, calm_sizeOf]
            cases P.info? elem with
            | none => rfl
            | some ti => simp only [Option.map_some, Option.bind_some, calm_part]
          · simp only [if_neg h, calm_boundsPanic, Option.map_none]
        | pointer a => cases a <;> rfl
        | slice a l c => cases a <;> rfl
        | map r => cases r <;> rfl
        | chan r => cases r <;> rfl
        | _ => rfl
      | string =>
        cases x with
        | string s =>
          simp only [ren]
          generalize (if 0 ≤ i then s[i.toNat]? else none) = e
          cases e with
          | none => simp only [calm_boundsPanic, Option.map_none]
          | some b => rfl
        | pointer a => cases a <;> rfl
        | slice a l c => cases a <;> rfl
        | map r => cases r <;> rfl
        | chan r => cases r <;> rfl
        | _ => rfl
      | _ => cases x with
        | pointer a => cases a <;> rfl
        | slice a l c => cases a <;> rfl
        | map r => cases r <;> rfl
        | chan r => cases r <;> rfl
        | _ => rfl
theorem calm_boundsErr {α : Type} (x y : Int) (s : Bool) (c : BoundsCode) : calm P (runtimePanic (.bounds x y s c) : Sem α) = none := rfl
theorem calm_arrayAt (arr : TypeId) (x : Value) : calm P (Instr.arrayAt arr (ren β x)) = (calm P (Instr.arrayAt arr x)).map (ren β) := by
  unfold Instr.arrayAt
  simp only [calm_bind, calm_underlying]
  cases P.underlying arr with
  | none => rfl
  | some d =>
    cases d with
    | array n e =>
      cases x with
      | slice a l c =>
        cases a with
        | none =>
          simp only [Option.bind_some, ren]
          split
          · simp only [calm_boundsErr, Option.map_none]
          · rfl
        | some a =>
          simp only [Option.bind_some, ren]
          split
          · simp only [calm_boundsErr, Option.map_none]
          · rfl
      | pointer a => cases a <;> rfl
      | map r => cases r <;> rfl
      | chan r => cases r <;> rfl
      | _ => rfl
    | _ => rfl
theorem calm_value (s : Sem Value) : calm P (do pure (Next.value (← s))) = (calm P s).map Next.value := by
  rw [calm_bind]
  cases calm P s <;> rfl

/-- Of a slice that is cut, and of what comes, the room is its own. -/
def capOK (ρ : Operand → Value) (op : Op) (v : Value) : Bool :=
  match op with
  | .slice _ x _ _ _ => okCap (ρ x) && okCap v
  | _ => true
/-- A safe operation on values whose blocks have other numbers gives what it gives, its blocks so numbered. -/
theorem eqv_safe {o : Oper} (hs : safeOp o.op = true) {n : Next} (hn : calm P (execOp ρ o) = some n) (hc : ∀ v, n = .value v → capOK ρ o.op v = true) :
    calm P (execOp (fun x => ren β (ρ x)) o) = some (renN β n) := by
  obtain ⟨dst, op, type, pos, after, guard⟩ := o
  cases op with
  | move x => simp only [execOp, calm_pure, Option.some.injEq] at hn ⊢; subst hn; rfl
  | assign x => simp only [execOp, calm_pure, Option.some.injEq] at hn ⊢; subst hn; rfl
  | pick c a b =>
    simp only [execOp, calm_bind, calm_asBool] at hn ⊢
    cases h : calm P (asBool (ρ c)) with
    | none => rw [h] at hn; cases hn
    | some t => rw [h] at hn; cases t <;> (simp only [Option.bind_some, calm_pure, Option.some.injEq] at hn; subst hn; rfl)
  | fieldAddr s x f =>
    simp only [execOp, calm_value, calm_fieldAt] at hn ⊢
    cases h : calm P (Instr.fieldAt s (ρ x) f) with
    | none => rw [h] at hn; cases hn
    | some v => rw [h] at hn; simp only [Option.map_some, Option.some.injEq] at hn; subst hn; rfl
  | indexAddr s x f =>
    simp only [execOp, calm_value, calm_indexAt] at hn ⊢
    cases h : calm P (Instr.indexAt s (ρ x) (ρ f)) with
    | none => rw [h] at hn; cases hn
    | some v => rw [h] at hn; simp only [Option.map_some, Option.some.injEq] at hn; subst hn; rfl
  | slice s x lo hi mx =>
    simp only [execOp, calm_value] at hn ⊢
    have e := calm_sliceAt (P := P) (β := β) s (ρ x) (lo.map ρ) (hi.map ρ) (mx.map ρ)
    simp only [Option.map_map] at e
    cases h : calm P (Instr.sliceAt s (ρ x) (lo.map ρ) (hi.map ρ) (mx.map ρ)) with
    | none => rw [h] at hn; cases hn
    | some v =>
      rw [h] at hn
      simp only [Option.map_some, Option.some.injEq] at hn
      subst hn
      have hk := hc v rfl
      simp only [capOK, Bool.and_eq_true] at hk
      rw [h, ren0_of hk.1, Option.map_some, ren0_of hk.2] at e
      rw [show (fun x => ren β (ρ x)) = ren β ∘ ρ from rfl, e]
      rfl
  | extract x i =>
    simp only [execOp, calm_value, calm_extract] at hn ⊢
    cases h : calm P (Instr.extract (ρ x) i) with
    | none => rw [h] at hn; cases hn
    | some v => rw [h] at hn; simp only [Option.map_some, Option.some.injEq] at hn; subst hn; rfl
  | makeInterface t x =>
    simp only [execOp, calm_value, calm_makeInterface] at hn ⊢
    cases h : calm P (Instr.makeInterface t (ρ x)) with
    | none => rw [h] at hn; cases hn
    | some v => rw [h] at hn; simp only [Option.map_some, Option.some.injEq] at hn; subst hn; rfl
  | index s x f =>
    simp only [execOp, calm_value, calm_index] at hn ⊢
    cases h : calm P (Instr.index s (ρ x) (ρ f)) with
    | none => rw [h] at hn; cases hn
    | some v => rw [h] at hn; simp only [Option.map_some, Option.some.injEq] at hn; subst hn; rfl
  | sliceToArrayPointer arr x =>
    simp only [execOp, calm_value, calm_arrayAt] at hn ⊢
    cases h : calm P (Instr.arrayAt arr (ρ x)) with
    | none => rw [h] at hn; cases hn
    | some v => rw [h] at hn; simp only [Option.map_some, Option.some.injEq] at hn; subst hn; rfl
  | makeFunc fn first captured =>
    cases fn with
    | func f =>
      simp only [execOp, calm_value, Instr.makeFunc, calm_pure, Option.map_some, Option.some.injEq] at hn ⊢
      subst hn
      simp only [renN, ren, renF, renA_map, Array.map_map]
      rfl
    | _ => cases hs
  | _ => cases hs
/-- What a call of a function's value enters. -/
def callArgs (ρ : Operand → Value) (c : Call) : Option (FuncId × Array Value) :=
  match c.callee with
  | .value f => (asFunc (ρ f)).map fun (g, first, captured) => (g, first ++ c.args.map ρ ++ captured)
  | _ => none
def hasBody (P : Program) (f : FuncId) : Bool :=
  match P.funcs[f]? with
  | some fn => !(fn.name == "runtime.NumGoroutine") && !fn.body.isNone
  | none => false
theorem asFunc_ren {v : Value} {f : FuncId} {first captured : Array Value} (h : asFunc v = some (f, first, captured)) : v = .func (.func f) first captured := by
  cases v with
  | func fn a b =>
    cases fn with
    | func g => simp only [asFunc, Option.some.injEq, Prod.mk.injEq] at h; obtain ⟨rfl, rfl, rfl⟩ := h; rfl
    | _ => cases h
  | _ => cases h
theorem call_run {o : Oper} {c : Call} (ho : o.op = .call c) {f : FuncId} {args : Array Value} (h : callArgs ρ c = some (f, args)) (hb : hasBody P f = true) (w : World) :
    (execOp (fun x => ren β (ρ x)) o).run P w = .ok (.enter f (renA β args)) w := by
  obtain ⟨dst, op, type, pos, after, guard⟩ := o
  simp only at ho
  subst ho
  unfold callArgs at h
  cases hcal : c.callee with
  | value g =>
    rw [hcal] at h
    simp only [Option.map_eq_some_iff] at h
    obtain ⟨⟨f', first, captured⟩, h1, h2⟩ := h
    simp only [Prod.mk.injEq] at h2
    obtain ⟨rfl, rfl⟩ := h2
    have hv := asFunc_ren h1
    unfold hasBody at hb
    cases hf : P.funcs[f']? with
    | none => rw [hf] at hb; cases hb
    | some fn =>
      rw [hf] at hb
      simp only [Bool.and_eq_true, Bool.not_eq_true'] at hb
      have e : calm P (execOp (fun x => ren β (ρ x)) { dst := dst, op := .call c, type := type, pos := pos, after := after, guard := guard }) = some (.enter f' (renA β (first ++ c.args.map ρ ++ captured))) := by
        simp only [execOp, calm_bind, resolve, hcal, hv, ren, renF, Deferred.ofValue, calm_pure, Option.bind_some, invoke, callFunc, program, calm, hf]
        simp only [hb.1, hb.2, Bool.false_eq_true, if_false]
        simp only [calm, renA_map, Array.map_append, Array.map_map]
        rfl
      exact calm_run e w
  | _ => rw [hcal] at h; cases h
end

end Go.Proofs.YtcjjckokaiobcaaDoor

/- A walk by computation: two rows of numbers, truths and rows of these, told apart. -/
namespace Go.Proofs.YtcjjckokaiobcaaDoor
open Go Go.RowKit
set_option linter.unusedSimpArgs false
set_option linter.unusedVariables false

/-- Are the parts that are fields the same? -/
def eqFs (P : Program) (g : TypeId → Value → Value → Option Bool) (xs ys : Array Value) : List Field → Option Bool
  | [] => some true
  | f :: fs =>
    if f.name = "_" then none else
    match calm P (part f.type xs f.offset), calm P (part f.type ys f.offset) with
    | some a, some b =>
      match g f.type a b with
      | some r => (eqFs P g xs ys fs).map fun s => r && s
      | none => none
    | _, _ => none
/-- Are the parts that are items the same? -/
def eqIs (P : Program) (g : TypeId → Value → Value → Option Bool) (e : TypeId) (z : Nat) (xs ys : Array Value) : List Nat → Option Bool
  | [] => some true
  | i :: is =>
    match calm P (part e xs (i * z)), calm P (part e ys (i * z)) with
    | some a, some b =>
      match g e a b with
      | some r => (eqIs P g e z xs ys is).map fun s => r && s
      | none => none
    | _, _ => none
/-- Are two values the same? -/
def eqV (P : Program) : Nat → TypeId → Value → Value → Option Bool
  | 0, _, _, _ => none
  | d + 1, t, x, y =>
    match P.underlying t with
    | some (.int _) =>
      match x, y with
      | .int k a, .int k' b => if k = k' then some (a == b) else none
      | _, _ => none
    | some .bool =>
      match x, y with
      | .bool a, .bool b => some (a == b)
      | _, _ => none
    | some (.struct fs) =>
      match x, y with
      | .agg xs, .agg ys => if P.stoodInHeld t then none else eqFs P (eqV P d) xs ys fs.toList
      | _, _ => none
    | some (.array n e) =>
      match x, y with
      | .agg xs, .agg ys =>
        match P.info? e with
        | some i => eqIs P (eqV P d) e i.size xs ys (List.range n)
        | none => none
      | _, _ => none
    | _ => none
/-- Are two arrays, or two structs, the same? -/
def arrEq (P : Program) (t : TypeId) (xs ys : Array Value) : Option Bool :=
  if P.eqGuardType P.depth t then none else eqV P 20 t (.agg xs) (.agg ys)

section
variable {P : Program}
theorem eqFs_run {g : TypeId → Value → Value → Option Bool} {D : Nat} (hg : ∀ t x y r, g t x y = some r → ∀ w, (Op.equalIn D t x y).run P w = .ok r w) (xs ys : Array Value) (w : World) :
    ∀ (l : List Field) (r : Bool), eqFs P g xs ys l = some r → (Op.eqFields D xs ys l).run P w = .ok r w
  | [], r, h => by
    simp only [eqFs, Option.some.injEq] at h
    subst h
    simp [Op.eqFields]
  | f :: fs, r, h => by
    unfold eqFs at h
    split at h
    · cases h
    rename_i hn
    split at h
    case h_2 => cases h
    rename_i a b ha hb
    split at h
    case h_2 => cases h
    rename_i r1 hr1
    rw [Option.map_eq_some_iff] at h
    obtain ⟨r', hr', rfl⟩ := h
    have ih := eqFs_run hg xs ys w fs r' hr'
    simp only [Op.eqFields, ne_eq, hn, not_false_eq_true, if_true, Sem.run_bind, calm_run ha w, calm_run hb w, Result.andThen_ok, hg _ _ _ _ hr1 w]
    cases r1
    · simp
    · simpa using ih
theorem eqIs_run {g : TypeId → Value → Value → Option Bool} {D : Nat} (hg : ∀ t x y r, g t x y = some r → ∀ w, (Op.equalIn D t x y).run P w = .ok r w) (e : TypeId) (z : Nat) (xs ys : Array Value) (w : World) :
    ∀ (l : List Nat) (r : Bool), eqIs P g e z xs ys l = some r → (Op.eqItems D e z xs ys l).run P w = .ok r w
  | [], r, h => by
    simp only [eqIs, Option.some.injEq] at h
    subst h
    simp [Op.eqItems]
  | i :: is, r, h => by
    unfold eqIs at h
    split at h
    case h_2 => cases h
    rename_i a b ha hb
    split at h
    case h_2 => cases h
    rename_i r1 hr1
    rw [Option.map_eq_some_iff] at h
    obtain ⟨r', hr', rfl⟩ := h
    have ih := eqIs_run hg e z xs ys w is r' hr'
    simp only [Op.eqItems, Sem.run_bind, calm_run ha w, calm_run hb w, Result.andThen_ok, hg _ _ _ _ hr1 w]
    cases r1
    · simp
    · simpa using ih
theorem eqV_run (m : Nat) : ∀ (d : Nat) (t : TypeId) (x y : Value) (r : Bool), eqV P d t x y = some r → ∀ w, (Op.equalIn (m + d) t x y).run P w = .ok r w
  | 0, _, _, _, _, h, _ => by cases h
  | d + 1, t, x, y, r, h, w => by
    have ih := eqV_run m d
    unfold eqV at h
    rw [show m + (d + 1) = (m + d) + 1 from rfl]
    split at h
    · rename_i k0 hu
      split at h
      case h_2 => cases h
      split at h
      case isFalse => cases h
      rename_i hk
      subst hk
      simp only [Option.some.injEq] at h
      subst h
      exact run_equalIn_int w (m + d) t _ _ _ _ hu
    · rename_i hu
      split at h
      case h_2 => cases h
      simp only [Option.some.injEq] at h
      subst h
      exact run_equalIn_bool w (m + d) t _ _ hu
    · rename_i fs hu
      split at h
      case h_2 => cases h
      rename_i xs ys
      split at h
      · cases h
      rename_i hst
      have hf : P.fieldsOf t = fs := by simp [Program.fieldsOf, hu]
      rw [run_equalIn_struct w (m + d) t xs ys (by rw [hf]; exact hu) (by simpa using hst), hf]
      exact eqFs_run ih xs ys w _ r h
    · rename_i n e hu
      split at h
      case h_2 => cases h
      rename_i xs ys
      split at h
      case h_2 => cases h
      rename_i i hi
      have hc : P.cellsOf e = i.size := by simp [Program.cellsOf, hi]
      rw [run_equalIn_array w (m + d) xs ys hu hi, hc]
      exact eqIs_run ih e i.size xs ys w _ r h
    · cases h
theorem eqFs_ren {g : TypeId → Value → Value → Option Bool} {β : Num} (hg : ∀ t x y r, g t x y = some r → g t (ren β x) (ren β y) = some r) (xs ys : Array Value) :
    ∀ (l : List Field) (r : Bool), eqFs P g xs ys l = some r → eqFs P g (renA β xs) (renA β ys) l = some r
  | [], r, h => h
  | f :: fs, r, h => by
    unfold eqFs at h ⊢
    split at h
    · cases h
    rename_i hn
    rw [if_neg hn]
    split at h
    case h_2 => cases h
    rename_i a b ha hb
    split at h
    case h_2 => cases h
    rename_i r1 hr1
    rw [Option.map_eq_some_iff] at h
    obtain ⟨r', hr', rfl⟩ := h
    simp only [calm_part, ha, hb, Option.map_some, hg _ _ _ _ hr1, eqFs_ren hg xs ys fs r' hr']
theorem eqIs_ren {g : TypeId → Value → Value → Option Bool} {β : Num} (hg : ∀ t x y r, g t x y = some r → g t (ren β x) (ren β y) = some r) (e : TypeId) (z : Nat) (xs ys : Array Value) :
    ∀ (l : List Nat) (r : Bool), eqIs P g e z xs ys l = some r → eqIs P g e z (renA β xs) (renA β ys) l = some r
  | [], r, h => h
  | i :: is, r, h => by
    unfold eqIs at h ⊢
    split at h
    case h_2 => cases h
    rename_i a b ha hb
    split at h
    case h_2 => cases h
    rename_i r1 hr1
    rw [Option.map_eq_some_iff] at h
    obtain ⟨r', hr', rfl⟩ := h
    simp only [calm_part, ha, hb, Option.map_some, hg _ _ _ _ hr1, eqIs_ren hg e z xs ys is r' hr']
theorem eqV_ren (β : Num) : ∀ (d : Nat) (t : TypeId) (x y : Value) (r : Bool), eqV P d t x y = some r → eqV P d t (ren β x) (ren β y) = some r
  | 0, _, _, _, _, h => by cases h
  | d + 1, t, x, y, r, h => by
    have ih := eqV_ren β d
    unfold eqV at h ⊢
    split at h
    · rename_i k0 hu
      split at h
      case h_2 => cases h
      simp only [ren]
      exact h
    · rename_i hu
      split at h
      case h_2 => cases h
      simp only [ren]
      exact h
    · rename_i fs hu
      split at h
      case h_2 => cases h
      rename_i xs ys
      split at h
      · cases h
      rename_i hst
      simp only [ren, if_neg hst]
      exact eqFs_ren ih xs ys _ r h
    · rename_i n e hu
      split at h
      case h_2 => cases h
      rename_i xs ys
      split at h
      case h_2 => cases h
      rename_i i hi
      simp only [ren, hi]
      exact eqIs_ren ih e i.size xs ys _ r h
    · cases h
end

theorem arrEq_eql {P : Program} {t : TypeId} {xs ys : Array Value} {r : Bool} (h : arrEq P t xs ys = some r) (w : World) (x y : Operand) (op : BinOp) :
    (eqGuard op t x y (.agg xs) (.agg ys)).run P w = .ok () w ∧ (Op.equalIn 10000 t (.agg xs) (.agg ys)).run P w = .ok r w := by
  unfold arrEq at h
  split at h
  · cases h
  rename_i hg
  exact ⟨run_eqGuard_agg w op t x y xs ys (by simpa using hg), eqV_run 9980 20 t _ _ r h w⟩
theorem arrEq_ren {P : Program} {t : TypeId} {xs ys : Array Value} {r : Bool} (β : Num) (h : arrEq P t xs ys = some r) : arrEq P t (renA β xs) (renA β ys) = some r := by
  unfold arrEq at h ⊢
  split at h
  · cases h
  rename_i hg
  rw [if_neg hg]
  exact eqV_ren β 20 t (.agg xs) (.agg ys) r h

end Go.Proofs.YtcjjckokaiobcaaDoor

/- A walk by computation: numbered blocks in a world, and the operations that read and write them. -/
namespace Go.Proofs.YtcjjckokaiobcaaDoor
open Go Go.RowKit
set_option linter.unusedSimpArgs false
set_option linter.unusedVariables false
attribute [local irreducible] shf

abbrev Hp := List (Nat × Obj)
def look : Hp → Nat → Option Obj
  | [], _ => none
  | (k, o) :: r, i => if k = i then some o else look r i
def hput : Hp → Nat → Obj → Hp
  | [], i, o => [(i, o)]
  | (k, x) :: r, i, o => if k = i then (i, o) :: r else (k, x) :: hput r i o
theorem look_hput (i : Nat) (o : Obj) (j : Nat) : ∀ H, look (hput H i o) j = if j = i then some o else look H j
  | [] => by simp only [hput, look, eq_comm]
  | (k, x) :: r => by
    simp only [hput]
    by_cases h : k = i
    · subst h
      simp only [if_true, look]
      by_cases hj : j = k
      · subst hj; simp
      · rw [if_neg (fun e => hj e.symm), if_neg hj, if_neg (fun e => hj e.symm)]
    · rw [if_neg h, look, look_hput i o j r, look]
      by_cases hj : k = j
      · subst hj; rw [if_pos rfl, if_pos rfl, if_neg h]
      · rw [if_neg hj, if_neg hj]
def domB (H : Hp) (i : Nat) : Bool := (look H i).isSome
theorem domB_of {H : Hp} {i : Nat} {o : Obj} (h : look H i = some o) : domB H i = true := by unfold domB; rw [h]; rfl
theorem domB_iff {H : Hp} {i : Nat} : domB H i = true ↔ ∃ o, look H i = some o := Option.isSome_iff_exists
theorem domB_hput {H : Hp} {i : Nat} {o : Obj} {j : Nat} : domB (hput H i o) j = (decide (j = i) || domB H j) := by
  unfold domB
  rw [look_hput]
  by_cases h : j = i <;> simp [h]

/-- A block of which nothing is told any more. -/
def deadO : Obj := .coro none
def isLive : Obj → Bool
  | .coro _ => false
  | _ => true
def liveB (H : Hp) (i : Nat) : Bool := match look H i with | some o => isLive o | none => false
theorem liveB_of {H : Hp} {i : Nat} {o : Obj} (h : look H i = some o) (hl : isLive o = true) : liveB H i = true := by unfold liveB; rw [h]; exact hl
theorem liveB_iff {H : Hp} {i : Nat} : liveB H i = true ↔ ∃ o, look H i = some o ∧ isLive o = true := by
  unfold liveB
  cases look H i with
  | none => simp
  | some o => simp
theorem liveB_dom {H : Hp} {i : Nat} (h : liveB H i = true) : domB H i = true := by
  obtain ⟨o, h, _⟩ := liveB_iff.1 h
  exact domB_of h
theorem liveB_congr {G H : Hp} {i : Nat} (h : look G i = look H i) : liveB G i = liveB H i := by unfold liveB; rw [h]
theorem liveB_hput {H : Hp} {i : Nat} {o : Obj} {j : Nat} : liveB (hput H i o) j = if j = i then isLive o else liveB H j := by
  unfold liveB
  rw [look_hput]
  by_cases h : j = i <;> simp [h]

/-- A block whose first cells are told, with room behind them. -/
def OpenAt (cap z : Nat) (T : TypeId) (c : Array Value) (x : Option Obj) : Prop :=
  ∃ cur : Array Value, x = some (.cells cur T (0, 0)) ∧ cap ≤ maxLen ∧ cur.size = cap * z ∧ c.size ≤ cur.size ∧ cur.toList.take c.size = c.toList
/-- A window on a block that is not ours: its cells from z on. -/
def WinAt (z : Nat) (c : Array Value) (x : Option Obj) : Prop :=
  ∃ (cur : Array Value) (T : TypeId) (fr : Nat × Nat), x = some (.cells cur T fr) ∧ ∀ j v, z ≤ j → c[j]? = some v → cur[j]? = some v
/-- A window whose cells are counted from its first one. -/
def SeenAt (d : Nat) (c : Array Value) (x : Option Obj) : Prop :=
  ∃ (cur : Array Value) (T : TypeId) (fr : Nat × Nat), x = some (.cells cur T fr) ∧ ∀ j v, c[j]? = some v → cur[j + d]? = some v
theorem le_capU {n : Nat} (h : n ≤ maxLen) : n ≤ capU := Nat.le_trans h (by decide)
/-- A map's entries, by other numbers. -/
def renEs (β : Num) (es : Array MapEntry) : Array MapEntry := ⟨es.toList.map fun e => { key := e.key, val := ren β e.val, born := e.born }⟩
def wfEs (p : Nat → Bool) (es : Array MapEntry) : Bool := es.toList.all fun e => wfV noB e.key && wfV p e.val
theorem renEs_congr {β γ : Num} {p : Nat → Bool} (h : ∀ i, p i = true → β i = γ i) {es : Array MapEntry} (hw : wfEs p es = true) : renEs β es = renEs γ es := by
  unfold renEs
  congr 1
  refine List.map_congr_left (fun e he => ?_)
  have := List.all_eq_true.1 hw e he
  simp only [Bool.and_eq_true] at this
  rw [ren_congr h e.val this.2]
theorem wfEs_mono {p q : Nat → Bool} (h : ∀ i, p i = true → q i = true) {es : Array MapEntry} (hw : wfEs p es = true) : wfEs q es = true := by
  unfold wfEs at *
  rw [List.all_eq_true] at *
  intro e he
  have := hw e he
  simp only [Bool.and_eq_true] at this ⊢
  exact ⟨this.1, wfV_mono h _ this.2⟩
/-- What is told of a block that lies: of a loop's record all but whose it is; of an open block its first cells. -/
def LiesO (β : Num) (cap : Nat) : Obj → Option Obj → Prop
  | .cells c T fr, x => (fr.1 = 0 → cap ≤ capU ∧ x = some (.cells (renA β c) T fr)) ∧ (fr.1 = 1 → OpenAt cap fr.2 T (renA β c) x) ∧ (fr.1 ≠ 0 → fr.1 ≠ 1 → SeenAt (cap - capU) (renA β c) x)
  | .loop r, x => ∃ fn, (r.fn ≠ 0 → fn = r.fn) ∧ x = some (.loop { r with fn := fn, tmps := renA β r.tmps, defers := (β r.defers).1 })
  | .coro _, _ => True
  | .map es clock, x => x = some (.map (renEs β es) clock)
  | .chan z c u1 T _ _, x => (u1 = false → OpenAt cap z T c x) ∧ (u1 = true → cap ≤ capU ∧ WinAt z c x) ∧ wfA noB c = true
  | o, x => x = some o
/-- A block whose first cells are plain, and not looked into. -/
abbrev opq (z : Nat) (c : Array Value) (T : TypeId) : Obj := .chan z c false T 0 false
/-- A window whose cells are told, counted from its first one. -/
abbrev seen (c : Array Value) : Obj := .cells c 0 (2, 0)
/-- A window: cells that are read, and not written. -/
abbrev win (z : Nat) (c : Array Value) : Obj := .chan z c true 0 0 false
theorem lies_cells {β : Num} {cap : Nat} {c : Array Value} {T : TypeId} (hcap : cap ≤ capU := by exact Nat.zero_le _) : LiesO β cap (.cells c T (0, 0)) (some (.cells (renA β c) T (0, 0))) := ⟨fun _ => ⟨hcap, rfl⟩, fun h => (by cases h), fun h _ => absurd rfl h⟩
def wfO (p : Nat → Bool) : Obj → Bool
  | .cells c _ fr => wfA p c && ((fr.1 == 0 && fr.2 == 0) || (fr.1 == 1 || fr.1 == 2))
  | .loop r => wfA p r.tmps && p r.defers
  | .deferred none => true
  | .deferred (some []) => true
  | .stringIter _ _ => true
  | .coro _ => true
  | .chan _ _ _ _ _ _ => true
  | .map es _ => wfEs p es
  | _ => false
theorem liesO_congr {β γ : Num} {p : Nat → Bool} (h : ∀ i, p i = true → β i = γ i) {cap : Nat} {o : Obj} {x : Option Obj} (hw : wfO p o = true) (hl : LiesO β cap o x) : LiesO γ cap o x := by
  cases o with
  | cells c T fr => simp only [wfO, Bool.and_eq_true] at hw; simp only [LiesO, ← renA_congr h c hw.1]; exact hl
  | loop r =>
    simp only [wfO, Bool.and_eq_true] at hw
    obtain ⟨fn, hfn, hl⟩ := hl
    exact ⟨fn, hfn, by rw [← renA_congr h r.tmps hw.1, ← h r.defers hw.2]; exact hl⟩
  | map es clock =>
    simp only [wfO] at hw
    simp only [LiesO, ← renEs_congr h hw]
    exact hl
  | _ => exact hl
theorem liesO_some {β : Num} {cap : Nat} {o : Obj} {x : Option Obj} (hv : isLive o = true) (hl : LiesO β cap o x) : ∃ y, x = some y := by
  cases o with
  | cells c T fr =>
    by_cases h : fr.1 = 0
    · exact ⟨_, (hl.1 h).2⟩
    · by_cases h1 : fr.1 = 1
      · obtain ⟨cur, h, _⟩ := hl.2.1 h1
        exact ⟨_, h⟩
      · obtain ⟨cur, T', fr', h, _⟩ := hl.2.2 h h1
        exact ⟨_, h⟩
  | loop r => obtain ⟨fn, _, hl⟩ := hl; exact ⟨_, hl⟩
  | coro p => cases hv
  | chan z c a T d e =>
    cases a with
    | false => obtain ⟨cur, h, _⟩ := hl.1 rfl; exact ⟨_, h⟩
    | true => obtain ⟨_, cur, T', fr, h, _⟩ := hl.2.1 rfl; exact ⟨_, h⟩
  | _ => exact ⟨_, hl⟩
theorem wfO_mono {p q : Nat → Bool} (h : ∀ i, p i = true → q i = true) {o : Obj} (hw : wfO p o = true) : wfO q o = true := by
  cases o with
  | cells c T fr => simp only [wfO, Bool.and_eq_true] at hw ⊢; exact ⟨wfA_mono h c hw.1, hw.2⟩
  | loop r => simp only [wfO, Bool.and_eq_true] at hw ⊢; exact ⟨wfA_mono h _ hw.1, h _ hw.2⟩
  | deferred d =>
    cases d with
    | none => rfl
    | some l => cases l with
      | nil => rfl
      | cons x l => cases hw
  | stringIter s k => rfl
  | coro p => rfl
  | chan z c a T d e => rfl
  | map es clock => exact wfEs_mono h hw
  | _ => cases hw

def winO : Obj → Bool
  | .cells _ _ fr => Nat.beq fr.1 2
  | .chan _ _ true _ _ _ => true
  | _ => false
/-- Is it a window? -/
def winB (H : Hp) (i : Nat) : Bool := match look H i with | some o => winO o | none => false
theorem winB_look {H : Hp} {i : Nat} {o : Obj} (h : look H i = some o) : winB H i = winO o := by unfold winB; rw [h]
theorem winB_of {H : Hp} {i : Nat} {o : Obj} (h : look H i = some o) (hl : winO o = false) : winB H i = false := (winB_look h).trans hl
theorem winB_congr {G H : Hp} {i : Nat} (h : look G i = look H i) : winB G i = winB H i := by unfold winB; rw [h]
theorem winB_hput {H : Hp} {i : Nat} {o : Obj} {j : Nat} : winB (hput H i o) j = if j = i then winO o else winB H j := by
  unfold winB
  rw [look_hput]
  by_cases h : j = i <;> simp [h]
theorem winO_no {c : Array Value} {T : TypeId} {fr : Nat × Nat} (h : winO (.cells c T fr) = false) : fr.1 ≠ 2 := fun e => by
  simp [winO, e] at h
theorem winO_of {c c' : Array Value} {T T' : TypeId} {fr : Nat × Nat} (h : winO (.cells c T fr) = false) : winO (.cells c' T' fr) = false := h
/-- But for the blocks A, what lay lies as it lay. A tells of each block k whether it is ours (2 k), and whether it is a window, which is not written (2 k + 1). -/
structure Kp (A : Nat → Prop) (w0 w : World) : Prop where
  os : w.os = w0.os
  tape : w.tape = w0.tape
  output : w.output = w0.output
  size : w0.heap.size ≤ w.heap.size
  block : ∀ k, k < w0.heap.size → ¬ (A (2 * k) ∧ ¬ A (2 * k + 1)) → w.heap[k]? = w0.heap[k]?
  gl : GlA A w0
theorem Kp.refl (A : Nat → Prop) (w : World) (h : GlA A w) : Kp A w w := ⟨rfl, rfl, rfl, Nat.le_refl _, fun _ _ _ => rfl, h⟩
theorem Kp.trans {A : Nat → Prop} {a b c : World} (h : Kp A a b) (k : Kp A b c) : Kp A a c :=
  ⟨k.os.trans h.os, k.tape.trans h.tape, k.output.trans h.output, Nat.le_trans h.size k.size, fun i hi hA => (k.block i (Nat.lt_of_lt_of_le hi h.size) hA).trans (h.block i hi hA), h.gl⟩
theorem Kp.below {A : Nat → Prop} {w0 w : World} {B : Nat} (h : Kp A w0 w) (hB : B ≤ w0.heap.size) (hA : ∀ k, A (2 * k) → ¬ A (2 * k + 1) → B ≤ k) : Below B w0 w :=
  ⟨h.os, h.tape, h.output, h.size, fun k hk => h.block k (by omega) (fun a => by have := hA k a.1 a.2; omega)⟩
theorem Kp.trans_below {A : Nat → Prop} {a b c : World} (h : Kp A a b) (k : Below b.heap.size b c) : Kp A a c :=
  ⟨k.os.trans h.os, k.tape.trans h.tape, k.output.trans h.output, Nat.le_trans h.size k.size, fun i hi hA => (k.block i (Nat.lt_of_lt_of_le hi h.size)).trans (h.block i hi hA), h.gl⟩
theorem Kp.glb {A : Nat → Prop} {w0 w : World} (h : Kp A w0 w) {g : Nat} : glB w g ↔ glB w0 g := glB_keep fun g hg => h.block g (h.gl.1.lt hg) fun a => a.2 (h.gl.2 g hg a.1)
theorem Kp.glw {A : Nat → Prop} {w0 w : World} (h : Kp A w0 w) : GL w := h.gl.1.keep fun g hg => h.block g (h.gl.1.lt hg) fun a => a.2 (h.gl.2 g hg a.1)
theorem Kp.drew {A : Nat → Prop} {w0 w : World} (h : Kp A w0 w) : Kp A w0 w.drew := ⟨h.os, h.tape, h.output, h.size, h.block, h.gl⟩

/-- The numbered blocks lie in the world, each at a place of its own, one of A's or a new one. -/
structure Rel (A : Nat → Prop) (w0 : World) (β : Num) (H : Hp) (w : World) : Prop where
  lies : ∀ i o, look H i = some o → LiesO β (β i).2 o w.heap[(β i).1]?
  inj : ∀ i j, liveB H i = true → liveB H j = true → winB H i = false → (β i).1 = (β j).1 → i = j
  own : ∀ i, liveB H i = true → A (2 * (β i).1) ∨ w0.heap.size ≤ (β i).1
  win : ∀ i, liveB H i = true → (winB H i = true ↔ ((β i).1 < w0.heap.size ∧ A (2 * (β i).1 + 1)))
  wf : ∀ i o, look H i = some o → wfO (domB H) o = true
  kp : Kp A w0 w

theorem Rel.win_eq {A : Nat → Prop} {w0 : World} {β : Num} {H : Hp} {w : World} (h : Rel A w0 β H w) {i j : Nat} (hi : liveB H i = true) (hj : liveB H j = true) (e : (β i).1 = (β j).1) : winB H i = winB H j := by
  rw [Bool.eq_iff_iff]
  exact (h.win i hi).trans (by rw [e]; exact (h.win j hj).symm)
theorem Rel.inj' {A : Nat → Prop} {w0 : World} {β : Num} {H : Hp} {w : World} (h : Rel A w0 β H w) {i j : Nat} (hi : liveB H i = true) (hj : liveB H j = true) (hw : winB H j = false) (e : (β i).1 = (β j).1) : i = j :=
  h.inj i j hi hj ((h.win_eq hi hj e).trans hw) e
theorem Rel.nil (A : Nat → Prop) (β : Num) (w : World) (hg : GlA A w) : Rel A w β [] w :=
  ⟨fun _ _ h => (by cases h), fun _ _ h => (by cases h), fun _ h => (by cases h), fun _ h => (by cases h), fun _ _ h => (by cases h), Kp.refl _ _ hg⟩
theorem Rel.lt {A : Nat → Prop} {w0 : World} {β : Num} {H : Hp} {w : World} (h : Rel A w0 β H w) {i : Nat} (hi : liveB H i = true) : (β i).1 < w.heap.size := by
  obtain ⟨o, ho, hv⟩ := liveB_iff.1 hi
  obtain ⟨y, hy⟩ := liesO_some hv (h.lies i o ho)
  exact (Array.getElem?_eq_some_iff.1 hy).1
theorem Rel.drew {A : Nat → Prop} {w0 : World} {β : Num} {H : Hp} {w : World} (h : Rel A w0 β H w) : Rel A w0 β H w.drew := ⟨h.lies, h.inj, h.own, h.win, h.wf, h.kp.drew⟩
/-- A block of ours that is no window is not among those that stay. -/
theorem Rel.not_hit {A : Nat → Prop} {w0 : World} {β : Num} {H : Hp} {w : World} (h : Rel A w0 β H w) {b : Nat} (hb : liveB H b = true) (hwb : winB H b = false) (hlt : (β b).1 < w0.heap.size) (hA : ¬ (A (2 * (β b).1) ∧ ¬ A (2 * (β b).1 + 1))) : False := by
  rcases h.own b hb with h1 | h1
  · refine hA ⟨h1, fun h2 => ?_⟩
    have := (h.win b hb).2 ⟨hlt, h2⟩
    rw [hwb] at this
    cases this
  · omega
/-- Another numbering that agrees, and another list that tells the same. -/
theorem Rel.congr {A : Nat → Prop} {w0 : World} {β γ : Num} {H G : Hp} {w : World} (h : Rel A w0 β H w) (hb : ∀ i, domB H i = true → γ i = β i) (hg : ∀ i, look G i = look H i) : Rel A w0 γ G w := by
  have hd : ∀ i, domB G i = domB H i := fun i => by unfold domB; rw [hg]
  have hlv : ∀ i, liveB G i = liveB H i := fun i => liveB_congr (hg i)
  refine ⟨fun i o ho => ?_, fun i j hi hj hw e => ?_, fun i hi => ?_, fun i hi => ?_, fun i o ho => ?_, h.kp⟩
  · rw [hg] at ho
    rw [hb i (domB_of ho)]
    exact liesO_congr (fun j hj => (hb j hj).symm) (h.wf i o ho) (h.lies i o ho)
  · rw [hlv] at hi hj
    rw [winB_congr (hg i)] at hw
    rw [hb i (liveB_dom hi), hb j (liveB_dom hj)] at e
    exact h.inj i j hi hj hw e
  · rw [hlv] at hi
    rw [hb i (liveB_dom hi)]; exact h.own i hi
  · rw [hlv] at hi
    rw [hb i (liveB_dom hi), winB_congr (hg i)]; exact h.win i hi
  · rw [hg] at ho
    exact wfO_mono (fun j hj => by rw [hd]; exact hj) (h.wf i o ho)
def upd1 (β : Num) (n : Nat) (x : Nat × Nat) (i : Nat) : Nat × Nat := if i = n then x else β i
theorem upd1_ne {β : Num} {n : Nat} {x : Nat × Nat} {i : Nat} (h : i ≠ n) : upd1 β n x i = β i := if_neg h
theorem upd1_self {β : Num} {n : Nat} {x : Nat × Nat} : upd1 β n x n = x := if_pos rfl
theorem Rel.new {A : Nat → Prop} {w0 : World} {β : Num} {H : Hp} {w : World} (h : Rel A w0 β H w) {n : Nat} (hn : domB H n = false) {o x : Obj} {cap : Nat} (ho : wfO (domB H) o = true) (hx : LiesO β cap o (some x)) (hno : winO o = false := by rfl) :
    Rel A w0 (upd1 β n (w.heap.size, cap)) (hput H n o) (w.alloc x) := by
  have hag : ∀ i, domB H i = true → upd1 β n (w.heap.size, cap) i = β i := fun i hi => upd1_ne (fun e => by rw [e, hn] at hi; cases hi)
  have hdom : ∀ i, liveB (hput H n o) i = true → i = n ∨ liveB H i = true := fun i hi => by
    rw [liveB_hput] at hi
    by_cases e : i = n
    · exact .inl e
    · rw [if_neg e] at hi; exact .inr hi
  have hox := hx
  refine ⟨fun i x hx => ?_, fun i j hi hj hwi e => ?_, fun i hi => ?_, fun i hi => ?_, fun i x hx => ?_, ?_⟩
  · rw [look_hput] at hx
    by_cases hi : i = n
    · subst hi
      rw [if_pos rfl] at hx
      simp only [Option.some.injEq] at hx
      subst hx
      rw [upd1_self]
      refine liesO_congr (fun j hj => (hag j hj).symm) ho ?_
      have : ∀ y, (w.alloc y).heap[w.heap.size]? = some y := fun y => by
        show (w.heap.push _)[w.heap.size]? = _
        simp
      rw [this]
      exact hox
    · rw [if_neg hi] at hx
      rw [upd1_ne hi]
      by_cases hlv : isLive x = true
      · rw [Below.heap_alloc _ _ _ (h.lt (liveB_of hx hlv))]
        exact liesO_congr (fun j hj => (hag j hj).symm) (h.wf i x hx) (h.lies i x hx)
      · cases x with
        | coro p => exact trivial
        | _ => exact absurd rfl hlv
  · rcases hdom i hi with hi' | hi' <;> rcases hdom j hj with hj' | hj'
    · rw [hi', hj']
    · rw [hi', upd1_self, hag j (liveB_dom hj')] at e
      have := h.lt hj'
      simp only at e
      omega
    · rw [hj', upd1_self, hag i (liveB_dom hi')] at e
      have := h.lt hi'
      simp only at e
      omega
    · rw [hag i (liveB_dom hi'), hag j (liveB_dom hj')] at e
      rw [winB_hput, if_neg (fun e2 => by rw [e2] at hi'; rw [liveB_dom hi'] at hn; cases hn)] at hwi
      exact h.inj i j hi' hj' hwi e
  · rcases hdom i hi with hi' | hi'
    · rw [hi', upd1_self]; exact .inr h.kp.size
    · rw [hag i (liveB_dom hi')]; exact h.own i hi'
  · by_cases hin : i = n
    · subst hin
      rw [winB_hput, if_pos rfl, hno, upd1_self]
      have := h.kp.size
      exact ⟨fun hh => (by cases hh), fun hh => absurd hh.1 (by show ¬ w.heap.size < _; omega)⟩
    · rcases hdom i hi with hi' | hi'
      · exact absurd hi' hin
      · rw [winB_hput, if_neg hin, hag i (liveB_dom hi')]; exact h.win i hi'
  · rw [look_hput] at hx
    refine wfO_mono (p := domB H) (fun j hj => by rw [domB_hput, hj, Bool.or_true]) ?_
    by_cases hi : i = n
    · rw [if_pos hi] at hx
      simp only [Option.some.injEq] at hx
      subst hx
      exact ho
    · rw [if_neg hi] at hx
      exact h.wf i x hx
  · exact h.kp.trans_below ((Below.refl _ w).alloc (Nat.le_refl _) _)
/-- Nothing more is told of a block. -/
theorem Rel.kill {A : Nat → Prop} {w0 : World} {β : Num} {H : Hp} {w : World} (h : Rel A w0 β H w) {b : Nat} (hb : domB H b = true) : Rel A w0 β (hput H b deadO) w := by
  have hdom : ∀ i, domB (hput H b deadO) i = domB H i := fun i => by
    rw [domB_hput]
    by_cases hi : i = b
    · subst hi; rw [hb, Bool.or_true]
    · rw [decide_eq_false hi, Bool.false_or]
  have hlv : ∀ i, liveB (hput H b deadO) i = true → i ≠ b ∧ liveB H i = true := fun i hi => by
    rw [liveB_hput] at hi
    by_cases e : i = b
    · rw [if_pos e] at hi; cases hi
    · rw [if_neg e] at hi; exact ⟨e, hi⟩
  refine ⟨fun i x hx => ?_, fun i j hi hj hw e => h.inj i j (hlv i hi).2 (hlv j hj).2 (by rw [winB_hput, if_neg (hlv i hi).1] at hw; exact hw) e, fun i hi => h.own i (hlv i hi).2, fun i hi => (by rw [winB_hput, if_neg (hlv i hi).1]; exact h.win i (hlv i hi).2), fun i x hx => ?_, h.kp⟩
  · rw [look_hput] at hx
    by_cases hi : i = b
    · rw [if_pos hi] at hx
      simp only [Option.some.injEq] at hx
      subst hx
      exact trivial
    · rw [if_neg hi] at hx
      exact h.lies i x hx
  · rw [look_hput] at hx
    refine wfO_mono (p := domB H) (fun j hj => by rw [hdom]; exact hj) ?_
    by_cases hi : i = b
    · rw [if_pos hi] at hx
      simp only [Option.some.injEq] at hx
      subst hx
      rfl
    · rw [if_neg hi] at hx
      exact h.wf i x hx
/-- A block that goes on under another number, its cells written anew. -/
theorem Rel.move {A : Nat → Prop} {w0 : World} {β : Num} {H : Hp} {w w' : World} (h : Rel A w0 β H w) {b n : Nat} (hb : liveB H b = true) (hwb : winB H b = false) (hn : domB H n = false) {o : Obj} (hno : winO o = false) (ho : wfO (domB H) o = true)
    (hx : LiesO β (β b).2 o w'.heap[(β b).1]?) (hos : w'.os = w.os) (htp : w'.tape = w.tape) (hout : w'.output = w.output) (hsz : w.heap.size ≤ w'.heap.size) (hk : ∀ k, k < w.heap.size → k ≠ (β b).1 → w'.heap[k]? = w.heap[k]?) :
    Rel A w0 (upd1 β n (β b)) (hput (hput H b deadO) n o) w' := by
  have hdead := h.kill (liveB_dom hb)
  have hbn : b ≠ n := fun e => by rw [e] at hb; rw [liveB_dom hb] at hn; cases hn
  have hdomk : ∀ i, domB (hput H b deadO) i = domB H i := fun i => by
    rw [domB_hput]
    by_cases hi : i = b
    · subst hi; rw [liveB_dom hb, Bool.or_true]
    · rw [decide_eq_false hi, Bool.false_or]
  have hag : ∀ i, domB H i = true → upd1 β n (β b) i = β i := fun i hi => upd1_ne (fun e => by rw [e, hn] at hi; cases hi)
  have hlv : ∀ i, liveB (hput (hput H b deadO) n o) i = true → i = n ∨ (i ≠ b ∧ liveB H i = true) := fun i hi => by
    rw [liveB_hput] at hi
    by_cases e : i = n
    · exact .inl e
    · rw [if_neg e, liveB_hput] at hi
      by_cases e2 : i = b
      · rw [if_pos e2] at hi; cases hi
      · rw [if_neg e2] at hi; exact .inr ⟨e2, hi⟩
  refine ⟨fun i x hx' => ?_, fun i j hi hj hwi e => ?_, fun i hi => ?_, fun i hi => ?_, fun i x hx' => ?_, ?_⟩
  · rw [look_hput] at hx'
    by_cases hi : i = n
    · subst hi
      rw [if_pos rfl] at hx'
      simp only [Option.some.injEq] at hx'
      subst hx'
      rw [upd1_self]
      exact liesO_congr (fun j hj => (hag j hj).symm) ho hx
    · rw [if_neg hi] at hx'
      rw [upd1_ne hi]
      by_cases hl : isLive x = true
      · have hi2 := liveB_of hx' hl
        rw [look_hput] at hx'
        by_cases e : i = b
        · rw [if_pos e] at hx'
          simp only [Option.some.injEq] at hx'
          subst hx'
          cases hl
        · rw [if_neg e] at hx'
          have hil := liveB_of hx' hl
          rw [hk _ (h.lt hil) (fun e2 => e (h.inj' hil hb hwb e2))]
          exact liesO_congr (fun j hj => (hag j hj).symm) (h.wf i x hx') (h.lies i x hx')
      · cases x with
        | coro p => exact trivial
        | _ => exact absurd rfl hl
  · rcases hlv i hi with hi' | ⟨hib, hi'⟩ <;> rcases hlv j hj with hj' | ⟨hjb, hj'⟩
    · rw [hi', hj']
    · rw [hi', upd1_self, hag j (liveB_dom hj')] at e
      exact absurd (h.inj b j hb hj' hwb e).symm hjb
    · rw [hj', upd1_self, hag i (liveB_dom hi')] at e
      exact absurd (h.inj' hi' hb hwb e) hib
    · rw [hag i (liveB_dom hi'), hag j (liveB_dom hj')] at e
      rw [winB_hput, if_neg (fun e2 => by rw [e2] at hi'; rw [liveB_dom hi'] at hn; cases hn), winB_hput, if_neg hib] at hwi
      exact h.inj i j hi' hj' hwi e
  · rcases hlv i hi with hi' | ⟨_, hi'⟩
    · rw [hi', upd1_self]; exact h.own b hb
    · rw [hag i (liveB_dom hi')]; exact h.own i hi'
  · by_cases hin : i = n
    · subst hin
      rw [winB_hput, if_pos rfl, hno, upd1_self, ← hwb]; exact h.win b hb
    · rcases hlv i hi with hi' | ⟨hib, hi'⟩
      · exact absurd hi' hin
      · rw [winB_hput, if_neg hin, winB_hput, if_neg hib, hag i (liveB_dom hi')]; exact h.win i hi'
  · rw [look_hput] at hx'
    refine wfO_mono (p := domB H) (fun j hj => by rw [domB_hput, hdomk, hj, Bool.or_true]) ?_
    by_cases hi : i = n
    · rw [if_pos hi] at hx'
      simp only [Option.some.injEq] at hx'
      subst hx'
      exact ho
    · rw [if_neg hi] at hx'
      exact wfO_mono (fun j hj => by rw [hdomk] at hj; exact hj) (hdead.wf i x hx')
  · refine ⟨hos.trans h.kp.os, htp.trans h.kp.tape, hout.trans h.kp.output, Nat.le_trans h.kp.size hsz, fun k hk2 hA => ?_, h.kp.gl⟩
    rw [hk k (Nat.lt_of_lt_of_le hk2 h.kp.size) (fun e => ?_)]
    · exact h.kp.block k hk2 hA
    · exact h.not_hit hb hwb (e ▸ hk2) (e ▸ hA)

/-- Cells that are written, from a place on. -/
def setC : Array Value → Nat → List Value → Array Value
  | c, _, [] => c
  | c, o, v :: r => setC (c.setIfInBounds o v) (o + 1) r
theorem setC_ren (β : Num) : ∀ (vs : List Value) (c : Array Value) (o : Nat), renA β (setC c o vs) = setC (renA β c) o (renL β vs)
  | [], _, _ => rfl
  | v :: r, c, o => by
    rw [setC, setC_ren β r, renL, setC]
    congr 1
    rw [renA_map, renA_map, Array.map_setIfInBounds]
theorem setC_wf (p : Nat → Bool) : ∀ (vs : List Value) (c : Array Value) (o : Nat), wfL p vs = true → wfA p c = true → wfA p (setC c o vs) = true
  | [], _, _, _, h => h
  | v :: r, c, o, hv, h => by
    simp only [wfL, Bool.and_eq_true] at hv
    refine setC_wf p r _ _ hv.2 ?_
    rw [wfA_list, wfL_all] at h ⊢
    intro x hx
    rw [Array.toList_setIfInBounds] at hx
    rcases List.mem_or_eq_of_mem_set hx with hx | rfl
    · exact h x hx
    · exact hv.1
theorem heap_setCells (b : Nat) : ∀ (vs : List Value) (o : Nat) (w : World) (c : Array Value) (T : TypeId) (fr : Nat × Nat), w.heap[b]? = some (.cells c T fr) →
    (w.setCells b o vs).heap[b]? = some (.cells (setC c o vs) T fr)
  | [], _, _, _, _, _, h => h
  | v :: r, o, w, c, T, fr, h => by
    rw [World.setCells, setC]
    refine heap_setCells b r _ _ _ _ _ ?_
    obtain ⟨hlt, hk⟩ := Array.getElem?_eq_some_iff.1 h
    show (w.heap.modify b _)[b]? = _
    rw [Array.getElem?_eq_getElem (by rw [Array.size_modify]; exact hlt), Array.getElem_modify_self, hk]
    rfl
theorem heap_setCells_ne (b k : Nat) (hk : k ≠ b) : ∀ (vs : List Value) (o : Nat) (w : World), (w.setCells b o vs).heap[k]? = w.heap[k]?
  | [], _, _ => rfl
  | v :: r, o, w => by
    rw [World.setCells, heap_setCells_ne b k hk r]
    exact Below.heap_setCell w ⟨b, o, none⟩ v k hk
theorem below_setCells (B b : Nat) (hb : B ≤ b) : ∀ (vs : List Value) (o : Nat) (w : World), Below B w (w.setCells b o vs)
  | [], _, w => Below.refl _ _
  | v :: r, o, w => ((Below.refl B w).setCell (p := ⟨b, o, none⟩) hb v).trans (below_setCells B b hb r _ _)
theorem setC_size : ∀ (vs : List Value) (c : Array Value) (o : Nat), (setC c o vs).size = c.size
  | [], _, _ => rfl
  | v :: r, c, o => by rw [setC, setC_size r]; simp
theorem setC_take : ∀ (vs : List Value) (c cur : Array Value) (o : Nat), o + vs.length ≤ c.size → c.size ≤ cur.size → cur.toList.take c.size = c.toList → (setC cur o vs).toList.take c.size = (setC c o vs).toList
  | [], _, _, _, _, _, h => h
  | v :: r, c, cur, o, hl, hs, h => by
    rw [setC, setC]
    have e := setC_take r (c.setIfInBounds o v) (cur.setIfInBounds o v) (o + 1) (by simp only [List.length_cons] at hl; simp only [Array.size_setIfInBounds]; omega) (by simpa using hs) (by
      simp only [Array.size_setIfInBounds, Array.toList_setIfInBounds]
      rw [← h, List.take_set])
    simpa using e
theorem setC_lies {β : Num} {b o cap : Nat} {vs : List Value} {w : World} {c : Array Value} {T : TypeId} {fr : Nat × Nat} (hw : wfO (fun _ => true) (.cells #[] T fr) = true) (hno : fr.1 ≠ 2) (hle : o + vs.length ≤ c.size) (h : LiesO β cap (.cells c T fr) w.heap[b]?) :
    LiesO β cap (.cells (setC c o vs) T fr) (w.setCells b o (renL β vs)).heap[b]? := by
  obtain ⟨f1, f2⟩ := fr
  have hno3 : f1 ≠ 0 → f1 ≠ 1 → False := fun e0 e1 => by
    simp only [wfO, wfA, wfL, Bool.true_and, Bool.or_eq_true, Bool.and_eq_true, beq_iff_eq] at hw
    simp only at hno
    omega
  refine ⟨fun hf => ?_, fun hf => ?_, fun hf hf1 => (hno3 hf hf1).elim⟩
  · have h1 := h.1 hf
    refine ⟨h1.1, ?_⟩
    rw [heap_setCells b (renL β vs) o w _ _ _ h1.2, setC_ren]
  · obtain ⟨cur, h1, h2, h3, h4, h5⟩ := h.2.1 hf
    refine ⟨setC cur o (renL β vs), heap_setCells b (renL β vs) o w _ _ _ h1, h2, by rw [setC_size]; exact h3, ?_, ?_⟩
    · rw [setC_ren, setC_size, setC_size]; exact h4
    · rw [setC_ren, setC_size]
      refine setC_take _ _ _ _ ?_ h4 h5
      rw [renL_map, List.length_map, renA_map, Array.size_map]
      exact hle
theorem Rel.sto {A : Nat → Prop} {w0 : World} {β : Num} {H : Hp} {w : World} (h : Rel A w0 β H w) {b : Nat} {c : Array Value} {T : TypeId} {fr : Nat × Nat} (hb : look H b = some (.cells c T fr)) (hno : winO (.cells c T fr) = false) (o : Nat) {vs : List Value} (hle : o + vs.length ≤ c.size) (hv : wfL (domB H) vs = true) :
    Rel A w0 β (hput H b (.cells (setC c o vs) T fr)) (w.setCells (β b).1 o (renL β vs)) := by
  have hwf := h.wf b _ hb
  simp only [wfO, Bool.and_eq_true] at hwf
  have hbl : liveB H b = true := liveB_of hb rfl
  have hdom : ∀ i, domB (hput H b (.cells (setC c o vs) T fr)) i = domB H i := fun i => by
    rw [domB_hput]
    by_cases hi : i = b
    · subst hi; rw [domB_of hb, Bool.or_true]
    · rw [decide_eq_false hi, Bool.false_or]
  have hlv : ∀ i, liveB (hput H b (.cells (setC c o vs) T fr)) i = liveB H i := fun i => by
    rw [liveB_hput]
    by_cases hi : i = b
    · subst hi; rw [if_pos rfl, hbl]; rfl
    · rw [if_neg hi]
  have hwv : ∀ i, winB (hput H b (.cells (setC c o vs) T fr)) i = winB H i := fun i => by
    rw [winB_hput]
    by_cases hi : i = b
    · subst hi; rw [if_pos rfl, winB_of hb hno]; exact hno
    · rw [if_neg hi]
  refine ⟨fun i x hx => ?_, fun i j hi hj hwi e => ?_, fun i hi => ?_, fun i hi => ?_, fun i x hx => ?_, ?_⟩
  · rw [look_hput] at hx
    by_cases hi : i = b
    · subst hi
      rw [if_pos rfl] at hx
      simp only [Option.some.injEq] at hx
      subst hx
      exact setC_lies (by simp only [wfO, wfA, wfL, Bool.true_and]; exact hwf.2) (winO_no hno) hle (h.lies i _ hb)
    · rw [if_neg hi] at hx
      by_cases hl : isLive x = true
      · rw [heap_setCells_ne _ _ (fun e => hi (h.inj' (liveB_of hx hl) hbl (winB_of hb hno) e))]
        exact h.lies i x hx
      · cases x with
        | coro p => exact trivial
        | _ => exact absurd rfl hl
  · rw [hlv] at hi hj
    rw [hwv] at hwi
    exact h.inj i j hi hj hwi e
  · rw [hlv] at hi
    exact h.own i hi
  · rw [hlv] at hi
    rw [hwv]; exact h.win i hi
  · refine wfO_mono (p := domB H) (fun j hj => by rw [hdom]; exact hj) ?_
    rw [look_hput] at hx
    by_cases hi : i = b
    · rw [if_pos hi] at hx
      simp only [Option.some.injEq] at hx
      subst hx
      simp only [wfO, Bool.and_eq_true]
      exact ⟨setC_wf _ _ _ _ hv hwf.1, hwf.2⟩
    · rw [if_neg hi] at hx
      exact h.wf i x hx
  · have hk := below_setCells 0 (β b).1 (Nat.zero_le _) (renL β vs) o w
    refine ⟨hk.os.trans h.kp.os, hk.tape.trans h.kp.tape, hk.output.trans h.kp.output, Nat.le_trans h.kp.size hk.size, fun k hk2 hA => ?_, h.kp.gl⟩
    rw [heap_setCells_ne _ _ (fun e => ?_)]
    · exact h.kp.block k hk2 hA
    · exact h.not_hit hbl (winB_of hb hno) (e ▸ hk2) (e ▸ hA)

/-- A record that is written anew. -/
theorem Rel.obj {A : Nat → Prop} {w0 : World} {β : Num} {H : Hp} {w : World} (h : Rel A w0 β H w) {b : Nat} (hb : liveB H b = true) (hwb : winB H b = false) {o x : Obj} (ho : wfO (domB H) o = true) (hx : LiesO β (β b).2 o (some x)) (hno : winO o = false := by rfl) :
    Rel A w0 β (hput H b o) (w.putObj (β b).1 x) := by
  have hdom : ∀ i, domB (hput H b o) i = domB H i := fun i => by
    rw [domB_hput]
    by_cases hi : i = b
    · subst hi; rw [liveB_dom hb, Bool.or_true]
    · rw [decide_eq_false hi, Bool.false_or]
  have hlv : ∀ i, liveB (hput H b o) i = true → liveB H i = true := fun i hi => by
    rw [liveB_hput] at hi
    by_cases e : i = b
    · rw [e]; exact hb
    · rw [if_neg e] at hi; exact hi
  have hox := hx
  refine ⟨fun i y hy => ?_, fun i j hi hj hw e => h.inj i j (hlv i hi) (hlv j hj) (by rw [winB_hput] at hw; split at hw; (· rename_i e2; rw [e2]; exact hwb); exact hw) e, fun i hi => h.own i (hlv i hi), fun i hi => ?_, fun i y hy => ?_, ?_⟩
  · rw [look_hput] at hy
    by_cases hi : i = b
    · subst hi
      rw [if_pos rfl] at hy
      simp only [Option.some.injEq] at hy
      subst hy
      rw [World.putObj_heap_same (h.lt hb)]
      exact hox
    · rw [if_neg hi] at hy
      by_cases hl : isLive y = true
      · rw [World.putObj_heap_other (fun e => hi (h.inj' (liveB_of hy hl) hb hwb e))]
        exact h.lies i y hy
      · cases y with
        | coro p => exact trivial
        | _ => exact absurd rfl hl
  · rw [winB_hput]
    by_cases hib : i = b
    · rw [if_pos hib, hno, ← hwb, hib]; exact h.win b hb
    · rw [if_neg hib]; exact h.win i (hlv i hi)
  · refine wfO_mono (p := domB H) (fun j hj => by rw [hdom]; exact hj) ?_
    rw [look_hput] at hy
    by_cases hi : i = b
    · rw [if_pos hi] at hy
      simp only [Option.some.injEq] at hy
      subst hy
      exact ho
    · rw [if_neg hi] at hy
      exact h.wf i y hy
  · refine ⟨h.kp.os, h.kp.tape, h.kp.output, by rw [World.putObj_size]; exact h.kp.size, fun k hk2 hA => ?_, h.kp.gl⟩
    rw [World.putObj_heap_other (fun e => ?_)]
    · exact h.kp.block k hk2 hA
    · exact h.not_hit hb hwb (e ▸ hk2) (e ▸ hA)

inductive Eff where
  | val (v : Value)
  | sto (b off : Nat) (vs : List Value)
  | new (c : Array Value) (T : TypeId)

def rowT (P : Program) (t : TypeId) : Option Bool :=
  (P.underlying t).map fun d => match d with | .struct _ | .array _ _ => true | _ => false

/-- A call that is no function's: len of a slice; else what only reckons with plain values. -/
def veffCall (P : Program) (ρ : Operand → Value) (o : Oper) (c : Call) : Option Eff :=
  match c with
  | { callee := .builtin .len, args := ⟨[x]⟩, argTypes := ⟨[ty]⟩ } =>
    match ρ x with
    | .slice _ l _ =>
      match P.underlying ty with
      | some (.slice _) => some (.val (.int .i64 l))
      | _ => none
    | _ =>
      match calm P (execOp ρ o) with
      | some (.value v) => if o.op.operands.toList.all (fun x => wfV noB (ρ x)) && wfV noB v then some (.val v) else none
      | _ => none
  | _ =>
    match calm P (execOp ρ o) with
    | some (.value v) => if o.op.operands.toList.all (fun x => wfV noB (ρ x)) && wfV noB v then some (.val v) else none
    | _ => none

/-- What an operation does. -/
def veff (P : Program) (H : Hp) (ρ : Operand → Value) (o : Oper) : Option Eff :=
  match o.op with
  | .load t x =>
    match ρ x with
    | .pointer (some ⟨b, off, none⟩) =>
      match look H b with
      | some (.cells c _ _) =>
        match rowT P t with
        | some true =>
          match P.info? t with
          | some i => if off + i.size ≤ c.size then some (.val (.agg ((c.toList.drop off).take i.size).toArray)) else none
          | none => none
        | some false => (c[off]?).map .val
        | none => none
      | _ => none
    | _ => none
  | .store t x y =>
    match ρ x with
    | .pointer (some ⟨b, off, none⟩) =>
      match look H b with
      | some (.cells c u fr) =>
        match P.info? t with
        | some i =>
          if (ρ y).cells.size = i.size ∧ off + (ρ y).cells.size ≤ c.size ∧ (ρ y).cells.toList.all (·.oneCell') = true ∧ winO (.cells c u fr) = false then some (.sto b off (ρ y).cells.toList) else none
        | none => none
      | _ => none
    | _ => none
  | .alloc t =>
    match P.info? t with
    | some i =>
      match i.zero with
      | some z => if wfA noB z.cells then some (.new z.cells t) else none
      | none => none
    | none => none
  | .box t x => some (.new (ρ x).cells t)
  | .select _ _ => none
  | .pick c a b =>
    match ρ c with
    | .bool t =>
      match ρ a, ρ b with
      | .bool x, .bool y => some (.val (.bool (if t then x else y)))
      | u, v => some (.val (if t then u else v))
    | _ => none
  | .call c => veffCall P ρ o c
  | .binOp .shl t x y ty =>
    match ρ x, ρ y with
    | .int k a, .int _ (.ofNat s) => some (.val (.int k (k.wrap (a * 2 ^ (min s k.bits)))))
    | _, _ => none
  | .binOp .shr t x y ty =>
    match ρ x, ρ y with
    | .int k a, .int _ (.ofNat s) => some (.val (.int k (a.fdiv (2 ^ (min s k.bits)))))
    | _, _ => none
  | .binOp op t x y ty =>
    match ρ x, ρ y with
    | .agg xs, .agg ys =>
      match op with
      | .eql => match arrEq P t xs ys with | some r => some (.val (.bool r)) | none => none
      | .neq => match arrEq P t xs ys with | some r => some (.val (.bool (!r))) | none => none
      | _ => none
    | _, _ =>
      match calm P (execOp ρ o) with
      | some (.value v) => if (safeOp o.op && capOK ρ o.op v) || (o.op.operands.toList.all (fun x => wfV noB (ρ x)) && wfV noB v) then some (.val v) else none
      | _ => none
  | op =>
    match calm P (execOp ρ o) with
    | some (.value v) => if (safeOp op && capOK ρ op v) || (op.operands.toList.all (fun x => wfV noB (ρ x)) && wfV noB v) then some (.val v) else none
    | _ => none

theorem execOp_of {P : Program} {ρ ρ' : Operand → Value} {β : Num} {o : Oper} (hs : ∀ cs b, o.op ≠ .select cs b) (h : ∀ x ∈ o.op.operands, ρ' x = ren β (ρ x)) :
    execOp ρ' o = execOp (fun x => ren β (ρ x)) o := execOp_congr o hs h

theorem cells_at {A : Nat → Prop} {w0 : World} {β : Num} {H : Hp} {w : World} (h : Rel A w0 β H w) {b : Nat} {c : Array Value} {T : TypeId} {fr : Nat × Nat} (hb : look H b = some (.cells c T fr)) (i : Nat) :
    (∀ v, c[i]? = some v → w.cell? ⟨(β b).1, i + shf (β b), none⟩ = some (ren β v)) ∧ (winO (.cells c T fr) = false → shf (β b) = 0 ∧ w.frozen? ⟨(β b).1, i, none⟩ = false) := by
  have hl := h.lies b _ hb
  have hwf := h.wf b _ hb
  simp only [wfO, Bool.and_eq_true, Bool.or_eq_true, beq_iff_eq] at hwf
  obtain ⟨lo, hi⟩ := fr
  rcases hwf.2 with ⟨h1, h2⟩ | h1
  · simp only at h1 h2
    subst h1
    subst h2
    obtain ⟨hcp, hl⟩ := hl.1 rfl
    rw [shf0 hcp]
    simp only [World.cell?, World.frozen?, hl, renA_get, Option.isSome_none, Bool.false_eq_true, if_false, Nat.add_zero]
    refine ⟨fun v hv => by simp [hv], fun _ => ⟨trivial, by simp⟩⟩
  · simp only at h1
    rcases h1 with h1 | h1
    case inr =>
      subst h1
      obtain ⟨cur, T', fr', hl, h2⟩ := hl.2.2 (by simp) (by simp)
      simp only [World.cell?, hl, Option.isSome_none, Bool.false_eq_true, if_false]
      refine ⟨fun v hv => ?_, fun h => (by cases h)⟩
      rw [shf_eq]
      exact h2 i (ren β v) (by rw [renA_get, hv]; rfl)
    subst h1
    obtain ⟨cur, hl, h2, h3, h4, h5⟩ := hl.2.1 rfl
    rw [shf0 (le_capU h2)]
    simp only [World.cell?, World.frozen?, hl, Option.isSome_none, Bool.false_eq_true, if_false, Nat.add_zero]
    refine ⟨fun v hv => ?_, fun _ => ⟨trivial, by simp⟩⟩
    have hlt := (Array.getElem?_eq_some_iff.1 hv).1
    have e : (renA β c)[i]? = cur[i]? := by
      rw [← Array.getElem?_toList, ← h5, List.getElem?_take_of_lt (by rw [renA_map, Array.size_map]; exact hlt), Array.getElem?_toList]
    rw [← e, renA_get, hv]
    simp

/-- What an operation does in the world in which the numbered blocks lie. -/
def EffRun (P : Program) (β : Num) (w : World) (s : Sem Next) : Eff → Prop
  | .val v => s.run P w = .ok (.value (ren β v)) w
  | .sto b off vs => s.run P w = .ok .skip (w.setCells (β b).1 off (renL β vs))
  | .new c T => s.run P w = .ok (.value (.pointer (some ⟨w.heap.size, 0, none⟩))) (w.alloc (.cells (renA β c) T (0, 0)))

theorem ren_pointer {β : Num} {v : Value} {b off : Nat} (h : v = .pointer (some ⟨b, off, none⟩)) : ren β v = .pointer (some ⟨(β b).1, off + shf (β b), none⟩) := by subst h; rfl

theorem eff_run {P : Program} {A : Nat → Prop} {w0 : World} {β : Num} {H : Hp} {w : World} {ρ ρ' : Operand → Value} {o : Oper} {e : Eff}
    (hR : Rel A w0 β H w) (h : veff P H ρ o = some e) (hρ : ∀ x ∈ o.op.operands, ρ' x = ren β (ρ x)) : EffRun P β w (execOp ρ' o) e := by
  have hsel : ∀ cs b, o.op ≠ .select cs b := by
    intro cs b hc
    unfold veff at h
    rw [hc] at h
    cases h
  rw [execOp_of (P := P) hsel hρ]
  obtain ⟨dst, op, type, pos, after, guard⟩ := o
  have gen : (match calm P (execOp ρ { dst := dst, op := op, type := type, pos := pos, after := after, guard := guard }) with
      | some (.value v) => if (safeOp op && capOK ρ op v) || (op.operands.toList.all (fun x => wfV noB (ρ x)) && wfV noB v) then some (Eff.val v) else none
      | _ => none) = some e → EffRun P β w (execOp (fun x => ren β (ρ x)) { dst := dst, op := op, type := type, pos := pos, after := after, guard := guard }) e := by
    intro hg
    cases hc : calm P (execOp ρ { dst := dst, op := op, type := type, pos := pos, after := after, guard := guard }) with
    | none => rw [hc] at hg; cases hg
    | some n =>
      rw [hc] at hg
      cases n with
      | value v =>
        simp only at hg
        split at hg
        · rename_i hor
          simp only [Option.some.injEq] at hg
          subst hg
          rw [Bool.or_eq_true] at hor
          rcases hor with hor | hor
          · rw [Bool.and_eq_true] at hor
            exact calm_run (eqv_safe hor.1 hc (fun u hu => by cases hu; exact hor.2)) w
          · simp only [Bool.and_eq_true, List.all_eq_true] at hor
            have e1 := execOp_congr (ρ := fun x => ren β (ρ x)) (ρ' := ρ) { dst := dst, op := op, type := type, pos := pos, after := after, guard := guard } hsel (fun x hx => ren_plain β (hor.1 x (by simpa using hx)))
            rw [e1]
            have := calm_run hc w
            show _ = _
            rw [this, ren_plain β hor.2]
        · cases hg
      | _ => cases hg
  cases op with
  | load t x =>
    clear gen
    simp only [veff] at h
    split at h
    · rename_i b off hx
      split at h
      · rename_i c T fr hb
        split at h
        · rename_i hrow
          split at h
          · rename_i i hi
            split at h
            · rename_i hle
              simp only [Option.some.injEq] at h
              subst h
              unfold rowT at hrow
              cases hu : P.underlying t with
              | none => rw [hu] at hrow; cases hrow
              | some d =>
                rw [hu] at hrow
                have hd : d.isRow = true := by cases d <;> simp_all [TypeDesc.isRow]
                have hlen : (((c.toList.drop off).take i.size).map (ren β)).length = i.size := by
                  simp only [List.length_map, List.length_take, List.length_drop, Array.length_toList]; omega
                have hrun := run_loadAt_mid (P := P) w (β b).1 (off + shf (β b)) t (((c.toList.drop off).take i.size).map (ren β)) d (fun j v hv => by
                  have hj := (List.getElem?_eq_some_iff.1 hv).1
                  rw [hlen] at hj
                  rw [List.getElem?_map, List.getElem?_take_of_lt hj, List.getElem?_drop] at hv
                  rw [Array.getElem?_toList, Option.map_eq_some_iff] at hv
                  obtain ⟨u, hu1, rfl⟩ := hv
                  rw [Nat.add_right_comm]
                  exact (cells_at hR hb (off + j)).1 u hu1) hu hd (by rw [hi, hlen]; rfl)
                simp only [EffRun, execOp, ren_pointer hx, Sem.run_bind, hrun, Result.andThen_ok, ren, renA_map]
                simp
            · cases h
          · cases h
        · rename_i hrow
          unfold rowT at hrow
          cases hu : P.underlying t with
          | none => rw [hu] at hrow; cases hrow
          | some d =>
            rw [hu] at hrow
            simp only [Option.map_eq_some_iff] at h
            obtain ⟨v, hv, rfl⟩ := h
            have hcell := (cells_at hR hb off).1 v hv
            have hagg : (isAgg t).run P w = .ok false w := by
              unfold isAgg
              rw [Sem.run_bind, run_underlying hu w]
              cases d <;> simp_all
            simp [EffRun, execOp, ren_pointer hx, Sem.run_bind, Instr.loadAt, Instr.sureAddr, loadVar, hagg, hcell]
        · cases h
      · cases h
    · cases h
  | store t x y =>
    clear gen
    simp only [veff] at h
    split at h
    · rename_i b off hx
      split at h
      · rename_i c T fr hb
        split at h
        · rename_i i hi
          split at h
          · rename_i hle
            obtain ⟨hsz, hle, h1, hno⟩ := hle
            have hsh := ((cells_at hR hb 0).2 hno).1
            simp only [Option.some.injEq] at h
            subst h
            have hst := run_storeCells_cells (P := P) (β b).1 off (renL β (ρ y).cells.toList) 0 w (fun j hj => by
                rw [renL_map, List.length_map, Array.length_toList] at hj
                rw [Nat.add_zero]
                have := (cells_at hR hb (off + j)).1 c[off + j] (Array.getElem?_eq_getElem (by omega))
                rw [hsh, Nat.add_zero] at this
                rw [this]
                rfl) (fun j hj => ((cells_at hR hb _).2 hno).2) (fun v hv => by
                rw [renL_map] at hv
                obtain ⟨u, hu, rfl⟩ := List.mem_map.1 hv
                rw [ren_oneCell]
                exact List.all_eq_true.1 h1 u hu)
            rw [Nat.add_zero] at hst
            have hcs : (ren β (ρ y)).cells.toList = renL β (ρ y).cells.toList := by
              rw [ren_cells, renL_map, renA_map]; simp
            have hsz2 : (ren β (ρ y)).cells.size = i.size := by rw [ren_cells, renA_map, Array.size_map]; exact hsz
            simp [EffRun, execOp, ren_pointer hx, hsh, Sem.run_bind, Instr.storeAt, Instr.sureAddr, storeVar, sizeOf, typeInfo, hi, hsz2, hcs, hst]
          · cases h
        · cases h
      · cases h
    · cases h
  | alloc t =>
    clear gen
    simp only [veff] at h
    split at h
    · rename_i i hi
      split at h
      · rename_i z hz
        split at h
        · rename_i hp
          simp only [Option.some.injEq] at h
          subst h
          simp [EffRun, execOp, Sem.run_bind, Instr.alloc, zeroValue, typeInfo, hi, hz, newVar, newRow, renA_plain β hp]
        · cases h
      · cases h
    · cases h
  | box t x =>
    clear gen
    simp only [veff, Option.some.injEq] at h
    subst h
    simp [EffRun, execOp, Sem.run_bind, Instr.box, newVar, newRow, ren_cells]
  | select cs b => exact absurd rfl (hsel cs b)
  | binOp bo t x y ty =>
    cases bo
    case shl =>
      simp only [veff] at h
      split at h
      · rename_i k a yk s hx hy
        simp only [Option.some.injEq] at h
        subst h
        have ex : ren β (ρ x) = .int k a := by rw [hx]; rfl
        have ey : ren β (ρ y) = .int yk (.ofNat s) := by rw [hy]; rfl
        have hg : (eqGuard .shl t x y (.int k a) (.int yk (.ofNat s))).run P w = .ok () w := rfl
        have hb : (binOp .shl t (.int k a) (.int yk (.ofNat s))).run P w = .ok (.int k (k.wrap (a * 2 ^ (min s k.bits)))) w := by
          show (Op.shift .shl k a yk (.ofNat s)).run P w = _
          unfold Op.shift
          rw [if_neg (show ¬ Int.ofNat s < 0 from Int.not_lt.2 (Int.natCast_nonneg s))]
          rfl
        simp only [EffRun, execOp, ex, ey, Sem.run_bind, hg, hb, Result.andThen_ok, ren]
        rfl
      · cases h
    case shr =>
      simp only [veff] at h
      split at h
      · rename_i k a yk s hx hy
        simp only [Option.some.injEq] at h
        subst h
        have ex : ren β (ρ x) = .int k a := by rw [hx]; rfl
        have ey : ren β (ρ y) = .int yk (.ofNat s) := by rw [hy]; rfl
        have hg : (eqGuard .shr t x y (.int k a) (.int yk (.ofNat s))).run P w = .ok () w := rfl
        have hb : (binOp .shr t (.int k a) (.int yk (.ofNat s))).run P w = .ok (.int k (a.fdiv (2 ^ (min s k.bits)))) w := by
          show (Op.shift .shr k a yk (.ofNat s)).run P w = _
          unfold Op.shift
          rw [if_neg (show ¬ Int.ofNat s < 0 from Int.not_lt.2 (Int.natCast_nonneg s))]
          rfl
        simp only [EffRun, execOp, ex, ey, Sem.run_bind, hg, hb, Result.andThen_ok, ren]
        rfl
      · cases h
    case eql =>
      simp only [veff] at h
      split at h
      · rename_i xs ys hx hy
        have ex : ren β (ρ x) = .agg (renA β xs) := by rw [hx]; rfl
        have ey : ren β (ρ y) = .agg (renA β ys) := by rw [hy]; rfl
        split at h
        case h_2 => cases h
        rename_i r hr
        simp only [Option.some.injEq] at h
        subst h
        obtain ⟨h1, h2⟩ := arrEq_eql (arrEq_ren β hr) w x y .eql
        simp [EffRun, execOp, ex, ey, Sem.run_bind, h1, run_eql_struct, h2, ren]
      · exact gen h
    case neq =>
      simp only [veff] at h
      split at h
      · rename_i xs ys hx hy
        have ex : ren β (ρ x) = .agg (renA β xs) := by rw [hx]; rfl
        have ey : ren β (ρ y) = .agg (renA β ys) := by rw [hy]; rfl
        split at h
        case h_2 => cases h
        rename_i r hr
        simp only [Option.some.injEq] at h
        subst h
        obtain ⟨h1, h2⟩ := arrEq_eql (arrEq_ren β hr) w x y .neq
        simp [EffRun, execOp, ex, ey, Sem.run_bind, h1, run_neq_struct, h2, ren]
      · exact gen h
    all_goals
      simp only [veff] at h
      split at h
      · cases h
      · exact gen h
  | call cl =>
    obtain ⟨callee, args, argTypes⟩ := cl
    have gen' : (match calm P (execOp ρ { dst := dst, op := .call { callee := callee, args := args, argTypes := argTypes }, type := type, pos := pos, after := after, guard := guard }) with
      | some (.value v) => if (Op.call { callee := callee, args := args, argTypes := argTypes }).operands.toList.all (fun x => wfV noB (ρ x)) && wfV noB v then some (Eff.val v) else none
      | _ => none) = some e → EffRun P β w (execOp (fun x => ren β (ρ x)) { dst := dst, op := .call { callee := callee, args := args, argTypes := argTypes }, type := type, pos := pos, after := after, guard := guard }) e := by
      intro hg
      refine gen ?_
      split at hg
      · rename_i v hv
        split at hg
        · rename_i hc
          rw [hc, Bool.or_true, if_pos rfl]
          exact hg
        · cases hg
      · cases hg
    simp only [veff, veffCall] at h
    split at h
    · rename_i x ty heq
      simp only [Call.mk.injEq] at heq
      obtain ⟨rfl, rfl, rfl⟩ := heq
      split at h
      · rename_i a l cp hx
        split at h
        · rename_i el hu
          simp only [Option.some.injEq] at h
          subst h
          have er : ∃ cp', ren β (.slice a l cp) = .slice (a.map (renP β)) l cp' := by cases a <;> exact ⟨_, rfl⟩
          obtain ⟨cp', er⟩ := er
          simp [EffRun, execOp, Sem.run_bind, resolve, invoke, builtin, Builtin.len_, hx, er, run_underlying hu, ren]
          rfl
        · cases h
      · exact gen' h
    · exact gen' h
  | pick c a b =>
    clear gen
    simp only [veff] at h
    split at h
    · rename_i t hc
      have run : ∀ v, v = (if t = true then ρ a else ρ b) → (execOp (fun x => ren β (ρ x)) { dst := dst, op := .pick c a b, type := type, pos := pos, after := after, guard := guard }).run P w = .ok (.value (ren β v)) w := by
        intro v hv
        subst hv
        simp only [execOp, hc, ren, asBool, Sem.run_bind, Sem.run_pure, Result.andThen_ok]
        cases t <;> rfl
      split at h
      · rename_i x y ha hb
        simp only [Option.some.injEq] at h
        subst h
        exact run _ (by rw [ha, hb]; cases t <;> rfl)
      · simp only [Option.some.injEq] at h
        subst h
        exact run _ rfl
    · cases h
  | _ => exact gen h

end Go.Proofs.YtcjjckokaiobcaaDoor

/- A walk by computation: one operation. -/
namespace Go.Proofs.YtcjjckokaiobcaaDoor
open Go Go.RowKit
set_option linter.unusedSimpArgs false
set_option linter.unusedVariables false
attribute [local irreducible] shf

def AllP : List Prop → Prop
  | [] => True
  | p :: l => p ∧ AllP l

/-- How a call ends. -/
inductive Res where
  | ret (v : Value)
  | pan (ch : List PanicEntry)
/-- What a walk hands along: the next number of a block, what is foretold of tests, what is owed, how tests came out. -/
structure Ctl where
  n : Nat
  orc : List (Option Bool)
  obl : List Prop
  log : List Bool
  ans : List (Nat × Res) := []
  bls : List (Nat × Res × Hp) := []
  lds : List (List Value) := []
/-- A test: by itself, or as it is foretold, which is then owed. -/
def vdec (b : Bool) (c : Ctl) : Bool × Ctl :=
  match c.orc with
  | [] => (b, { c with log := b :: c.log })
  | none :: r => (b, { c with orc := r, log := b :: c.log })
  | some d :: r => (d, { c with orc := r, obl := (b = d) :: c.obl, log := d :: c.log })
theorem vdec_mono {b : Bool} {c : Ctl} (h : AllP (vdec b c).2.obl) : AllP c.obl := by
  unfold vdec at h
  split at h
  · exact h
  · exact h
  · exact h.2
theorem vdec_fst {b : Bool} {c : Ctl} (h : AllP (vdec b c).2.obl) : (vdec b c).1 = b := by
  unfold vdec at h ⊢
  split at h
  · rfl
  · rfl
  · exact h.1.symm

/-- A call that waits for the end: a loop's mark, or a function. -/
inductive VDef where
  | mark (r : Nat)
  | fn (f : FuncId) (cap args : Array Value)
def renD (β : Num) : VDef → Deferred
  | .mark r => { target := .collected (β r).1, args := #[] }
  | .fn f cap args => { target := .fn (.func f) (renA β cap), args := renA β args }
def wfD (p : Nat → Bool) : VDef → Bool
  | .mark r => p r
  | .fn _ cap args => wfA p cap && wfA p args
theorem renD_congr {β γ : Num} {p : Nat → Bool} (h : ∀ i, p i = true → β i = γ i) {d : VDef} (hw : wfD p d = true) : renD β d = renD γ d := by
  cases d with
  | mark r => simp only [renD, h r hw]
  | fn f cap args => simp only [wfD, Bool.and_eq_true] at hw; simp only [renD, renA_congr h _ hw.1, renA_congr h _ hw.2]
theorem wfD_mono {p q : Nat → Bool} (h : ∀ i, p i = true → q i = true) {d : VDef} (hw : wfD p d = true) : wfD q d = true := by
  cases d with
  | mark r => exact h r hw
  | fn f cap args => simp only [wfD, Bool.and_eq_true] at hw ⊢; exact ⟨wfA_mono h _ hw.1, wfA_mono h _ hw.2⟩
def wfDs (p : Nat → Bool) (D : List VDef) : Bool := D.all (wfD p)
theorem wfDs_mono {p q : Nat → Bool} (h : ∀ i, p i = true → q i = true) {D : List VDef} (hw : wfDs p D = true) : wfDs q D = true := by
  unfold wfDs at *
  rw [List.all_eq_true] at *
  exact fun d hd => wfD_mono h (hw d hd)
theorem renDs_congr {β γ : Num} {p : Nat → Bool} (h : ∀ i, p i = true → β i = γ i) {D : List VDef} (hw : wfDs p D = true) : D.map (renD β) = D.map (renD γ) := by
  unfold wfDs at hw
  rw [List.all_eq_true] at hw
  exact List.map_congr_left (fun d hd => renD_congr h (hw d hd))

def vev (t : List Value) : Operand → Value
  | .tmp i => t.getD i undef
  | .const v => v
  | .global _ => undef
  | .func f => .func (.func f) #[] #[]
def opdOK : Operand → Bool
  | .const v => wfV noB v
  | .global _ => false
  | _ => true

structure RelA (A : Nat → Prop) (w0 : World) (β : Num) (D : List VDef) (t : List Value) (H : Hp) (a : Act) (w : World) : Prop where
  tm : a.tmps = (renL β t).toArray
  df : a.defers = D.map (renD β)
  wt : wfL (domB H) t = true
  wd : wfDs (domB H) D = true
  rel : Rel A w0 β H w

theorem RelA.eval {A : Nat → Prop} {w0 : World} {β : Num} {D : List VDef} {t : List Value} {H : Hp} {a : Act} {w : World} (h : RelA A w0 β D t H a w) {x : Operand} (hx : opdOK x = true) : a.eval x = ren β (vev t x) := by
  cases x with
  | tmp i =>
    simp only [Act.eval, vev, h.tm, renL_map, List.getD_eq_getElem?_getD, Array.getD_eq_getD_getElem?, List.getElem?_toArray, List.getElem?_map]
    cases t[i]? <;> rfl
  | const v => exact (ren_plain β hx).symm
  | global g => cases hx
  | func f => rfl

def vput (t : List Value) (dst : Option Tmp) (v : Value) : List Value :=
  match dst with
  | some d => t.set d v
  | none => t
theorem RelA.put {A : Nat → Prop} {w0 : World} {β γ : Num} {D : List VDef} {t : List Value} {H G : Hp} {a : Act} {w w' : World} (h : RelA A w0 β D t H a w) (hb : ∀ i, domB H i = true → γ i = β i) (hd : ∀ i, domB H i = true → domB G i = true)
    (hR : Rel A w0 γ G w') (dst : Option Tmp) {v : Value} (hv : wfV (domB G) v = true) : RelA A w0 γ D (vput t dst v) G (a.put dst (ren γ v)) w' := by
  have ht : renL γ t = renL β t := renL_congr (fun i hi => hb i hi) t h.wt
  have hw := wfL_mono hd t h.wt
  have hdf : D.map (renD γ) = D.map (renD β) := renDs_congr (fun i hi => hb i hi) h.wd
  cases dst with
  | none => exact ⟨by rw [show (vput t none v) = t from rfl, ht]; exact h.tm, by rw [hdf]; exact h.df, hw, wfDs_mono hd h.wd, hR⟩
  | some d =>
    refine ⟨?_, by rw [hdf]; exact h.df, ?_, wfDs_mono hd h.wd, hR⟩
    · show a.tmps.setIfInBounds d (ren γ v) = (renL γ (t.set d v)).toArray
      rw [h.tm, ← ht, renL_map, renL_map, List.map_set]
      simp
    · show wfL (domB G) (t.set d v) = true
      rw [wfL_all] at hw ⊢
      intro x hx
      rcases List.mem_or_eq_of_mem_set hx with hx | rfl
      · exact hw x hx
      · exact hv

/-- What an operation makes: a value, and blocks. -/
structure Mic where
  val : Value
  set : Hp
  pan : Option (List PanicEntry) := none
  dfr : Option VDef := none
/-- Blocks over others. -/
def merge (S H : Hp) : Hp := S ++ H.filter fun e => !domB S e.1
theorem look_append (i : Nat) (G : Hp) : ∀ S, look (S ++ G) i = match look S i with | some o => some o | none => look G i
  | [] => rfl
  | (k, x) :: r => by
    simp only [List.cons_append, look]
    by_cases h : k = i
    · rw [if_pos h, if_pos h]
    · rw [if_neg h, if_neg h, look_append i G r]
theorem look_filter (p : Nat → Bool) (i : Nat) : ∀ H, look (H.filter fun e => p e.1) i = if p i = true then look H i else none
  | [] => by simp [look]
  | (k, x) :: r => by
    rw [List.filter_cons]
    by_cases hk : p k = true
    · simp only [hk, if_true, look, look_filter p i r]
      by_cases h : k = i
      · subst h; simp [hk]
      · simp [h]
    · simp only [hk, if_false, Bool.false_eq_true, look, look_filter p i r]
      by_cases h : k = i
      · subst h; simp [hk]
      · simp [h]
theorem look_merge (S H : Hp) (i : Nat) : look (merge S H) i = match look S i with | some o => some o | none => look H i := by
  unfold merge
  rw [look_append, look_filter (fun k => !domB S k)]
  cases h : look S i with
  | some o => rfl
  | none => simp [domB, h]
theorem domB_merge {S H : Hp} {i : Nat} : domB (merge S H) i = (domB S i || domB H i) := by
  unfold domB
  rw [look_merge]
  cases look S i <;> simp

def Sub (G H : Hp) : Prop := ∀ i o, look G i = some o → look H i = some o

theorem veff_sub {P : Program} {G H : Hp} {ρ : Operand → Value} {o : Oper} {e : Eff} (hs : Sub G H) (h : veff P G ρ o = some e) : veff P H ρ o = some e := by
  obtain ⟨dst, op, type, pos, after, guard⟩ := o
  cases op with
  | load t x =>
    simp only [veff] at h ⊢
    split at h
    · rename_i b off hx
      split at h
      · rename_i c T fr hb
        rw [hs _ _ hb]
        exact h
      · cases h
    · cases h
  | store t x y =>
    simp only [veff] at h ⊢
    split at h
    · rename_i b off hx
      split at h
      · rename_i c T fr hb
        rw [hs _ _ hb]
        exact h
      · cases h
    · cases h
  | binOp bo t x y ty => cases bo <;> exact h
  | _ => exact h

/-- The block that an operation reads or writes. -/
def touch (H : Hp) (ρ : Operand → Value) (o : Oper) : Hp :=
  match o.op with
  | .load _ x | .store _ x _ =>
    match ρ x with
    | .pointer (some a) => match look H a.block with | some ob => [(a.block, ob)] | none => []
    | _ => []
  | _ => []
theorem touch_sub (H : Hp) (ρ : Operand → Value) (o : Oper) : Sub (touch H ρ o) H := by
  intro i ob h
  unfold touch at h
  split at h
  · split at h
    · split at h
      · rename_i a _ ob' hb
        simp only [look] at h
        split at h
        · rename_i e; simp only [Option.some.injEq] at h; subst h; rw [← e]; exact hb
        · cases h
      · cases h
    · cases h
  · split at h
    · split at h
      · rename_i a _ ob' hb
        simp only [look] at h
        split at h
        · rename_i e; simp only [Option.some.injEq] at h; subst h; rw [← e]; exact hb
        · cases h
      · cases h
    · cases h
  · cases h

/-- Of the blocks of a list: which they are (2 k), and which of them are windows (2 k + 1). -/
def rng (β : Num) (H : Hp) (k : Nat) : Prop := ∃ i, liveB H i = true ∧ (2 * (β i).1 = k ∨ (winB H i = true ∧ 2 * (β i).1 + 1 = k))
theorem rng_own {β : Num} {H : Hp} {k : Nat} : rng β H (2 * k) ↔ ∃ i, liveB H i = true ∧ (β i).1 = k := by
  refine ⟨?_, fun ⟨i, h, e⟩ => ⟨i, h, .inl (by omega)⟩⟩
  rintro ⟨i, h, e | ⟨_, e⟩⟩
  · exact ⟨i, h, by omega⟩
  · omega
theorem rng_win {β : Num} {H : Hp} {k : Nat} : rng β H (2 * k + 1) ↔ ∃ i, liveB H i = true ∧ winB H i = true ∧ (β i).1 = k := by
  refine ⟨?_, fun ⟨i, h, hw, e⟩ => ⟨i, h, .inr ⟨hw, by omega⟩⟩⟩
  rintro ⟨i, h, e | ⟨hw, e⟩⟩
  · omega
  · exact ⟨i, h, hw, by omega⟩
/-- The variables' blocks are none of a list's that are written, if they are none of the greater one's. -/
theorem gl_of {A : Nat → Prop} {w0 : World} {β γ : Num} {G H : Hp} {w : World} (h : Rel A w0 β H w) (hs : ∀ i, liveB G i = true → ∃ j, liveB H j = true ∧ (β j).1 = (γ i).1 ∧ winB H j = winB G i) : GlA (rng γ G) w := by
  refine ⟨h.kp.glw, fun g hg1 hA => ?_⟩
  have hg := h.kp.glb.1 hg1
  obtain ⟨i, hi, e⟩ := rng_own.1 hA
  obtain ⟨j, hj, ej, ew⟩ := hs i hi
  have hlt := h.kp.gl.1.lt hg
  rw [e] at ej
  have : winB H j = true := by
    rcases h.own j hj with h1 | h1
    · refine (h.win j hj).2 ?_
      rw [ej] at h1 ⊢
      exact ⟨hlt, h.kp.gl.2 g hg h1⟩
    · rw [ej] at h1
      omega
  exact rng_win.2 ⟨i, hi, ew ▸ this, e⟩
theorem gl_nil {w : World} (h : GL w) {β : Num} : GlA (rng β []) w := ⟨h, fun g _ hA => by
  obtain ⟨i, hi, _⟩ := rng_own.1 hA
  cases hi⟩
def closedH (H : Hp) : Bool := H.all fun e => wfO (domB H) e.2
theorem closedH_spec {H : Hp} (h : closedH H = true) : ∀ i o, look H i = some o → wfO (domB H) o = true := by
  have key : ∀ (G : Hp) (p : Nat → Bool), (G.all fun e => wfO p e.2) = true → ∀ i o, look G i = some o → wfO p o = true := by
    intro G p
    induction G with
    | nil => intro _ i o h; cases h
    | cons e r ih =>
      obtain ⟨k, x⟩ := e
      intro hg i o ho
      rw [List.all_cons, Bool.and_eq_true] at hg
      simp only [look] at ho
      split at ho
      · simp only [Option.some.injEq] at ho; subst ho; exact hg.1
      · exact ih hg.2 i o ho
  exact key H _ h
theorem live_sub {G H : Hp} (hs : Sub G H) {i : Nat} (h : liveB G i = true) : liveB H i = true := by
  obtain ⟨o, ho, hl⟩ := liveB_iff.1 h
  exact liveB_of (hs i o ho) hl
theorem win_sub {G H : Hp} (hs : Sub G H) {i : Nat} (h : liveB G i = true) : winB G i = winB H i := by
  obtain ⟨o, ho, hl⟩ := liveB_iff.1 h
  rw [winB_look ho, winB_look (hs i o ho)]
theorem Rel.sub {A : Nat → Prop} {w0 : World} {β : Num} {G H : Hp} {w : World} (h : Rel A w0 β H w) (hs : Sub G H) (hc : closedH G = true) : Rel (rng β G) w β G w :=
  ⟨fun i o ho => h.lies i o (hs i o ho), fun i j hi hj hw e => h.inj i j (live_sub hs hi) (live_sub hs hj) (by rw [← win_sub hs hi]; exact hw) e, fun i hi => .inl (rng_own.2 ⟨i, hi, rfl⟩), fun i hi => ⟨fun hw => ⟨h.lt (live_sub hs hi), rng_win.2 ⟨i, hi, hw, rfl⟩⟩, fun hw => by
    obtain ⟨j, hj, hjw, e⟩ := rng_win.1 hw.2
    rw [win_sub hs hi, ← h.win_eq (live_sub hs hj) (live_sub hs hi) e, ← win_sub hs hj]; exact hjw⟩, closedH_spec hc, Kp.refl _ _ (gl_of h fun i hi => ⟨i, live_sub hs hi, rfl, (win_sub hs hi).symm⟩)⟩
/-- A part of the list. -/
theorem Rel.part {A : Nat → Prop} {w0 : World} {β : Num} {G H : Hp} {w : World} (h : Rel A w0 β H w) (hs : Sub G H) (hc : closedH G = true) : Rel A w0 β G w :=
  ⟨fun i o ho => h.lies i o (hs i o ho), fun i j hi hj hw e => h.inj i j (live_sub hs hi) (live_sub hs hj) (by rw [← win_sub hs hi]; exact hw) e, fun i hi => h.own i (live_sub hs hi), fun i hi => (by rw [win_sub hs hi]; exact h.win i (live_sub hs hi)), closedH_spec hc, h.kp⟩

/-- Behind a call that had a part of the blocks. -/
theorem Rel.back {A : Nat → Prop} {w0 : World} {β β' : Num} {G H H' : Hp} {w w' : World} (h : Rel A w0 β H w) (hs : Sub G H) (hk : Rel (rng β G) w β' H' w') (hx : ∀ i, domB G i = true → β' i = β i)
    (hd : ∀ i, domB G i = true → domB H' i = true) (hn : ∀ i, domB H' i = true → domB G i = true ∨ domB H i = false) :
    Rel A w0 (fun i => if domB H i = true then β i else β' i) (merge H' H) w' ∧ ∀ i, domB H' i = true → (if domB H i = true then β i else β' i) = β' i := by
  have hG : ∀ i, domB G i = true → domB H i = true := fun i hi => by obtain ⟨o, ho⟩ := domB_iff.1 hi; exact domB_of (hs i o ho)
  have hag : ∀ i, domB H' i = true → (if domB H i = true then β i else β' i) = β' i := fun i hi => by
    rcases hn i hi with h1 | h1
    · rw [if_pos (hG i h1), hx i h1]
    · rw [if_neg (by rw [h1]; decide)]
  have hold : ∀ i, liveB H i = true → domB H' i = false → w'.heap[(β i).1]? = w.heap[(β i).1]? := fun i hi hi' => by
    refine hk.kp.block _ (h.lt hi) (fun hq => ?_)
    obtain ⟨j, hj, e⟩ := rng_own.1 hq.1
    have hwj : winB G j = false := by
      cases hw : winB G j
      · rfl
      · exact absurd (rng_win.2 ⟨j, hj, hw, e⟩) hq.2
    have := h.inj j i (live_sub hs hj) hi (by rw [← win_sub hs hj]; exact hwj) e
    subst this
    rw [hd j (liveB_dom hj)] at hi'
    cases hi'
  have hcl : ∀ i, liveB (merge H' H) i = true → (liveB H' i = true ∧ (if domB H i = true then β i else β' i) = β' i) ∨ (domB H' i = false ∧ liveB H i = true ∧ (if domB H i = true then β i else β' i) = β i) := fun i hi => by
    obtain ⟨o, ho, hl⟩ := liveB_iff.1 hi
    rw [look_merge] at ho
    cases hlk : look H' i with
    | some x =>
      rw [hlk] at ho
      simp only [Option.some.injEq] at ho
      subst ho
      exact .inl ⟨liveB_of hlk hl, hag i (domB_of hlk)⟩
    | none =>
      rw [hlk] at ho
      simp only at ho
      exact .inr ⟨by unfold domB; rw [hlk]; rfl, liveB_of ho hl, if_pos (domB_of ho)⟩
  have hmix : ∀ i j, liveB H' i = true → domB H' j = false → liveB H j = true → (winB H' i = false ∨ winB H j = false) → (β' i).1 = (β j).1 → False := fun i j hi hj' hj hw e => by
    rcases (hk.own i hi).imp_left rng_own.1 with ⟨k, hk1, hk2⟩ | h1
    · have hwk : winB H k = false := by
        cases hwk : winB H k
        · rfl
        · have h1 : winB H j = true := by rw [← h.win_eq (live_sub hs hk1) hj (hk2.trans e)]; exact hwk
          have h2 : winB H' i = true := (hk.win i hi).2 ⟨by rw [← hk2]; exact h.lt (live_sub hs hk1), rng_win.2 ⟨k, hk1, by rw [win_sub hs hk1]; exact hwk, hk2⟩⟩
          rw [h1, h2] at hw
          rcases hw with hw | hw <;> cases hw
      have := h.inj k j (live_sub hs hk1) hj hwk (hk2.trans e)
      subst this
      rw [hd k (liveB_dom hk1)] at hj'
      cases hj'
    · have := h.lt hj
      omega
  have hwm : ∀ (i : Nat) (o : Option Obj), look H' i = o → winB (merge H' H) i = match o with | some x => winO x | none => winB H i := fun i o ho => by
    unfold winB
    rw [look_merge, ho]
    cases o <;> rfl
  have hwin : ∀ i, liveB H' i = true → winB (merge H' H) i = winB H' i := fun i hi => by
    obtain ⟨o, ho, _⟩ := liveB_iff.1 hi
    rw [hwm i _ ho, winB_look ho]
  have hwout : ∀ i, domB H' i = false → winB (merge H' H) i = winB H i := fun i hi => by
    have hn : look H' i = none := by
      unfold domB at hi
      cases hh : look H' i with
      | none => rfl
      | some x => rw [hh] at hi; cases hi
    rw [hwm i _ hn]
  refine ⟨⟨fun i o ho => ?_, fun i j hi hj hwi e => ?_, fun i hi => ?_, fun i hi => ?_, fun i o ho => ?_, ?_⟩, hag⟩
  · rw [look_merge] at ho
    cases hl : look H' i with
    | some x =>
      rw [hl] at ho
      simp only [Option.some.injEq] at ho
      subst ho
      have hi := domB_of hl
      simp only [hag i hi]
      exact liesO_congr (fun j hj => (hag j hj).symm) (hk.wf i x hl) (hk.lies i x hl)
    | none =>
      rw [hl] at ho
      simp only at ho
      have hi := domB_of ho
      have hi' : domB H' i = false := by unfold domB; rw [hl]; rfl
      simp only [if_pos hi]
      by_cases hlv : isLive o = true
      · rw [hold i (liveB_of ho hlv) hi']
        exact liesO_congr (fun j hj => (if_pos hj).symm) (h.wf i o ho) (h.lies i o ho)
      · cases o with
        | coro p => exact trivial
        | _ => exact absurd rfl hlv
  · rcases hcl i hi with ⟨h1, e1⟩ | ⟨h1, h1', e1⟩ <;> rcases hcl j hj with ⟨h2, e2⟩ | ⟨h2, h2', e2⟩ <;> rw [e1, e2] at e
    · exact hk.inj i j h1 h2 (by rw [← hwin i h1]; exact hwi) e
    · exact (hmix i j h1 h2 h2' (.inl (by rw [← hwin i h1]; exact hwi)) e).elim
    · exact (hmix j i h2 h1 h1' (.inr (by rw [← hwout i h1]; exact hwi)) e.symm).elim
    · exact h.inj i j h1' h2' (by rw [← hwout i h1]; exact hwi) e
  · rcases hcl i hi with ⟨h1, e1⟩ | ⟨h1, h1', e1⟩ <;> rw [e1]
    · rcases (hk.own i h1).imp_left rng_own.1 with ⟨k, hk1, hk2⟩ | h2
      · rw [← hk2]; exact h.own k (live_sub hs hk1)
      · exact .inr (Nat.le_trans h.kp.size h2)
    · exact h.own i h1'
  · have hwm : ∀ (o : Option Obj), look H' i = o → winB (merge H' H) i = match o with | some x => winO x | none => winB H i := fun o ho => by
      unfold winB
      rw [look_merge, ho]
      cases o <;> rfl
    have hsz := h.kp.size
    rcases hcl i hi with ⟨h1, e1⟩ | ⟨h1, h1', e1⟩ <;> rw [e1]
    · obtain ⟨o, ho, _⟩ := liveB_iff.1 h1
      rw [hwm _ ho]
      show (winO o = true ↔ _)
      rw [← winB_look ho]
      refine (hk.win i h1).trans ⟨fun hh => ?_, fun hh => ?_⟩
      · obtain ⟨j, hj, hjw, e⟩ := rng_win.1 hh.2
        rw [← e]
        exact (h.win j (live_sub hs hj)).1 (by rw [← win_sub hs hj]; exact hjw)
      · refine ⟨Nat.lt_of_lt_of_le hh.1 hsz, ?_⟩
        rcases (hk.own i h1).imp_left rng_own.1 with ⟨j, hj, e⟩ | h2
        · rw [← e] at hh
          exact rng_win.2 ⟨j, hj, by rw [win_sub hs hj]; exact (h.win j (live_sub hs hj)).2 hh, e⟩
        · omega
    · have hn : look H' i = none := by
        unfold domB at h1
        cases hh : look H' i with
        | none => rfl
        | some x => rw [hh] at h1; cases h1
      rw [hwm _ hn]
      exact h.win i h1'
  · rw [look_merge] at ho
    cases hl : look H' i with
    | some x =>
      rw [hl] at ho
      simp only [Option.some.injEq] at ho
      subst ho
      exact wfO_mono (fun j hj => by rw [domB_merge, hj]; rfl) (hk.wf i x hl)
    | none =>
      rw [hl] at ho
      simp only at ho
      exact wfO_mono (fun j hj => by rw [domB_merge, hj, Bool.or_true]) (h.wf i o ho)
  · refine ⟨hk.kp.os.trans h.kp.os, hk.kp.tape.trans h.kp.tape, hk.kp.output.trans h.kp.output, Nat.le_trans h.kp.size hk.kp.size, fun k hk2 hA => ?_, h.kp.gl⟩
    rw [hk.kp.block k (Nat.lt_of_lt_of_le hk2 h.kp.size)]
    · exact h.kp.block k hk2 hA
    · rintro ⟨hq1, hq2⟩
      obtain ⟨j, hj, e⟩ := rng_own.1 hq1
      subst e
      refine h.not_hit (live_sub hs hj) ?_ hk2 hA
      rw [← win_sub hs hj]
      cases hw : winB G j
      · rfl
      · exact absurd (rng_win.2 ⟨j, hj, hw, rfl⟩) hq2

/-- .. in numbers. -/
def Res.out (β : Num) : Res → Ending
  | .ret v => .returned (ren β v)
  | .pan ch => .panicked ch
/-- A call, wherever its blocks lie. -/
def CallsV (P : Program) (fn : Fn) (args : Array Value) (H : Hp) (r : Res) (H' : Hp) : Prop :=
  ∀ β w, Rel (rng β H) w β H w →
    match fn with
    | .func f => Calls P f (renA β args) w fun e w' => ∃ β', (∀ i, domB H i = true → β' i = β i) ∧ e = r.out β' ∧ Rel (rng β H) w β' H' w'
    | .yield l => ∀ n, YieldAt Fence.wide n P (β l).1 (renA β args) w fun e w' => ∃ β', (∀ i, domB H i = true → β' i = β i) ∧ e = r.out β' ∧ Rel (rng β H) w β' H' w'
    | _ => False

end Go.Proofs.YtcjjckokaiobcaaDoor

/- A walk by computation: sums and differences of words with a carry. -/
namespace Go.Proofs.YtcjjckokaiobcaaDoor
open Go Go.RowKit
set_option linter.unusedSimpArgs false
set_option linter.unusedVariables false

def isAdd (fn : Func) : Bool := fn.body.isNone && fn.origin == "" && fn.name == "math/bits.Add64"
def isSub (fn : Func) : Bool := fn.body.isNone && fn.origin == "" && fn.name == "math/bits.Sub64"
/-- What Add64, Sub64 tell, and whether the carry is none. -/
def vext (P : Program) (f : FuncId) (args : Array Value) : Option (Value × Bool) :=
  match P.funcs[f]? with
  | some fn =>
    match args with
    | ⟨[.int _ x, .int _ y, .int _ c]⟩ =>
      if isAdd fn then some (Extern.MathBitsCarry.pair ((x.toNat + y.toNat + c.toNat) % Extern.MathBitsCarry.m64) ((x.toNat + y.toNat + c.toNat) / Extern.MathBitsCarry.m64), decide (c.toNat > 1))
      else if isSub fn then some (Extern.MathBitsCarry.pair ((x.toNat + Extern.MathBitsCarry.m64 - y.toNat - c.toNat) % Extern.MathBitsCarry.m64) (if x.toNat < y.toNat + c.toNat then 1 else 0), decide (c.toNat > 1))
      else none
    | _ => none
  | none => none

theorem three_is (name : String) (x y c : Int) (k k' k'' : IntKind) : Extern.MathBitsCarry.three name #[.int k x, .int k' y, .int k'' c] = (do
    if c.toNat > 1 then unsupported (.noEntry ("extern/math/bits." ++ name ++ ": a carry that is neither 0 nor 1"))
    pure (x.toNat, y.toNat, c.toNat)) := rfl
theorem sub64_in (x y c : Int) (k k' k'' : IntKind) (hc : ¬ c.toNat > 1) : ∃ e : Array Value → Sem Value, Extern.allRows.lookup "math/bits.Sub64" = some e ∧ ∀ (P : Program) (w : World), (e #[.int k x, .int k' y, .int k'' c]).run P w = .ok (Extern.MathBitsCarry.pair ((x.toNat + Extern.MathBitsCarry.m64 - y.toNat - c.toNat) % Extern.MathBitsCarry.m64) (if x.toNat < y.toNat + c.toNat then 1 else 0)) w := by
  refine ⟨fun args => do
    let (x, y, b) ← Extern.MathBitsCarry.three "Sub64" args
    pure (Extern.MathBitsCarry.pair ((x + Extern.MathBitsCarry.m64 - y - b) % Extern.MathBitsCarry.m64) (if x < y + b then 1 else 0)), by kernel_rfl, fun P w => ?_⟩
  simp [three_is, hc]
theorem add64_in (x y c : Int) (k k' k'' : IntKind) (hc : ¬ c.toNat > 1) : ∃ e : Array Value → Sem Value, Extern.allRows.lookup "math/bits.Add64" = some e ∧ ∀ (P : Program) (w : World), (e #[.int k x, .int k' y, .int k'' c]).run P w = .ok (Extern.MathBitsCarry.pair ((x.toNat + y.toNat + c.toNat) % Extern.MathBitsCarry.m64) ((x.toNat + y.toNat + c.toNat) / Extern.MathBitsCarry.m64)) w := by
  refine ⟨fun args => do
    let (x, y, c) ← Extern.MathBitsCarry.three "Add64" args
    pure (Extern.MathBitsCarry.pair ((x + y + c) % Extern.MathBitsCarry.m64) ((x + y + c) / Extern.MathBitsCarry.m64)), by kernel_rfl, fun P w => ?_⟩
  simp [three_is, hc]
theorem noRow1 : (Extern.allNextRows.lookup "math/bits.Add64").isNone = true := by kernel_rfl
theorem noRow2 : (Extern.allNextRows.lookup "math/bits.Sub64").isNone = true := by kernel_rfl
theorem noRow3 : (Extern.allNextRows.lookup "").isNone = true := by kernel_rfl
theorem noRow4 : (Extern.allGenericRows.lookup "math/bits.Add64").isNone = true := by kernel_rfl
theorem noRow5 : (Extern.allGenericRows.lookup "math/bits.Sub64").isNone = true := by kernel_rfl
theorem noRow6 : (Extern.allTypedRows.lookup "math/bits.Add64").isNone = true := by kernel_rfl
theorem noRow7 : (Extern.allTypedRows.lookup "math/bits.Sub64").isNone = true := by kernel_rfl

theorem ext_run {P : Program} {f : FuncId} {args : Array Value} {v : Value} (h : vext P f args = some (v, false)) (w : World) : (callFunc f args).run P w = .ok (.value v) w ∧ (∀ β, renA β args = args) ∧ (∀ p, wfV p v = true) := by
  unfold vext at h
  split at h
  case h_2 => cases h
  rename_i fn hf
  split at h
  case h_2 => cases h
  rename_i k x k' y k'' c
  have hr : ∀ β, renA β (⟨[.int k x, .int k' y, .int k'' c]⟩ : Array Value) = ⟨[.int k x, .int k' y, .int k'' c]⟩ := fun β => rfl
  split at h
  · rename_i ha
    simp only [Option.some.injEq, Prod.mk.injEq, decide_eq_false_iff_not] at h
    obtain ⟨rfl, hc⟩ := h
    unfold isAdd at ha
    simp only [Bool.and_eq_true, beq_iff_eq] at ha
    obtain ⟨⟨h1, h2⟩, h3⟩ := ha
    obtain ⟨e, he, hrun⟩ := add64_in x y c k k' k'' hc
    refine ⟨?_, hr, fun p => rfl⟩
    have n1 : Extern.findNext fn = none := by
      have a := noRow1; have b := noRow3
      simp only [Option.isNone_iff_eq_none] at a b
      simp only [Extern.findNext, h3, h2, a, b]; rfl
    have n2 : Extern.find fn = some e := by
      have a := noRow4; have b := noRow6
      simp only [Option.isNone_iff_eq_none] at a b
      simp only [Extern.find, h3, a, b, he]; rfl
    simp [callFunc, run_program, hf, h3, Option.isNone_iff_eq_none.1 h1, n1, n2, hrun]
  · split at h
    case isFalse => cases h
    rename_i ha
    simp only [Option.some.injEq, Prod.mk.injEq, decide_eq_false_iff_not] at h
    obtain ⟨rfl, hc⟩ := h
    unfold isSub at ha
    simp only [Bool.and_eq_true, beq_iff_eq] at ha
    obtain ⟨⟨h1, h2⟩, h3⟩ := ha
    obtain ⟨e, he, hrun⟩ := sub64_in x y c k k' k'' hc
    refine ⟨?_, hr, fun p => rfl⟩
    have n1 : Extern.findNext fn = none := by
      have a := noRow2; have b := noRow3
      simp only [Option.isNone_iff_eq_none] at a b
      simp only [Extern.findNext, h3, h2, a, b]; rfl
    have n2 : Extern.find fn = some e := by
      have a := noRow5; have b := noRow7
      simp only [Option.isNone_iff_eq_none] at a b
      simp only [Extern.find, h3, a, b, he]; rfl
    simp [callFunc, run_program, hf, h3, Option.isNone_iff_eq_none.1 h1, n1, n2, hrun]

end Go.Proofs.YtcjjckokaiobcaaDoor

/- A walk by computation: new rows, and rows that are appended to. -/
namespace Go.Proofs.YtcjjckokaiobcaaDoor
open Go Go.RowKit
set_option linter.unusedSimpArgs false
set_option linter.unusedVariables false

/-- Elements that are laid into cells. -/
def vfill (size : Nat) : Array Value → List (Nat × Value) → Option (Array Value)
  | cells, [] => some cells
  | cells, (i, v) :: rest => if v.cells.size = size ∧ i * size + v.cells.size ≤ cells.size then vfill size (setC cells (i * size) v.cells.toList) rest else none
theorem foldl_setC (off : Nat) : ∀ (l : List Value) (k : Nat) (cells : Array Value), (l.zipIdx k).foldl (fun cs (x : Value × Nat) => cs.setIfInBounds (off + x.2) x.1) cells = setC cells (off + k) l
  | [], _, _ => rfl
  | v :: l, k, cells => by
    rw [List.zipIdx_cons, List.foldl_cons, foldl_setC off l (k + 1), setC]
    rfl
theorem fill_vfill (size : Nat) : ∀ (l : List (Nat × Value)) (cells : Array Value) (r : Array Value), vfill size cells l = some r → Instr.fill (fun i => some (i * size, size)) cells l = some r
  | [], _, _, h => h
  | (i, v) :: l, cells, r, h => by
    unfold vfill at h
    split at h
    · rename_i hc
      have e : v.cells.zipIdx.foldl (fun cs (x : Value × Nat) => cs.setIfInBounds (i * size + x.2) x.1) cells = setC cells (i * size) v.cells.toList := by
        rw [← Array.foldl_toList, Array.toList_zipIdx]
        exact foldl_setC (i * size) v.cells.toList 0 cells
      have h2 : ¬ (i * size + v.cells.size > cells.size) := by omega
      simp only [Instr.fill, hc.1, ne_eq, not_true_eq_false, decide_false, Bool.false_or, decide_eq_true_eq]
      rw [hc.1] at h2
      rw [if_neg h2]
      have := fill_vfill size l _ r h
      rw [← this]
      congr 1
    · cases h
theorem vfill_ren (β : Num) (size : Nat) : ∀ (l : List (Nat × Value)) (cells : Array Value) (r : Array Value), vfill size cells l = some r → vfill size (renA β cells) (l.map fun p => (p.1, ren β p.2)) = some (renA β r)
  | [], cells, r, h => by
    simp only [vfill, Option.some.injEq] at h
    subst h
    rfl
  | (i, v) :: l, cells, r, h => by
    unfold vfill at h
    split at h
    · rename_i hc
      have hs : (renA β v.cells).size = v.cells.size := by rw [renA_map, Array.size_map]
      have hs2 : (renA β cells).size = cells.size := by rw [renA_map, Array.size_map]
      have e := vfill_ren β size l _ r h
      rw [setC_ren] at e
      simp only [List.map_cons, vfill, ren_cells, hs, hs2]
      rw [if_pos hc, ← e]
      congr 2
      rw [renL_map, renA_map]
      simp
    · cases h
theorem vfill_wf (p : Nat → Bool) (size : Nat) : ∀ (l : List (Nat × Value)) (cells : Array Value) (r : Array Value), vfill size cells l = some r → wfA p cells = true → (∀ x ∈ l, wfA p x.2.cells = true) → wfA p r = true
  | [], cells, r, h, hc, _ => by
    simp only [vfill, Option.some.injEq] at h
    subst h
    exact hc
  | (i, v) :: l, cells, r, h, hw, hl => by
    unfold vfill at h
    split at h
    · refine vfill_wf p size l _ r h (setC_wf _ _ _ _ ?_ hw) (fun x hx => hl x (List.mem_cons_of_mem _ hx))
      have := hl (i, v) List.mem_cons_self
      rw [wfA_list] at this
      exact this
    · cases h
/-- A row of zero elements. -/
def zrow (n : Nat) (z : Array Value) : Array Value := ((List.range n).map fun j => z[j % z.size]!).toArray
theorem zrow_is (n : Nat) (z : Array Value) : zrow n z = (Array.range n).map (z[· % z.size]!) := by
  apply Array.ext'
  simp [zrow]
/-- A slice that is written out. -/
def vslice (P : Program) (H : Hp) (t : List Value) (ty : TypeId) (len : Nat) (parts : Array (Nat × Operand)) (c : Ctl) : Option (Mic × Hp × Ctl) :=
  match P.underlying ty with
  | some (.slice e) =>
    match P.info? e with
    | some i =>
      match i.zero with
      | some z =>
        match vfill i.size (zrow (len * i.size) z.cells) (parts.toList.map fun p => (p.1, vev t p.2)) with
        | some cs =>
          if len * i.size ≤ 16777216 ∧ wfA noB (zrow (len * i.size) z.cells) = true ∧ domB H c.n = false ∧ Nat.beq len capU = false then
            some ({ val := .slice (some ⟨c.n, 0, none⟩) len len, set := [(c.n, .cells cs e (0, 0))] }, [], { c with n := c.n + 1 })
          else none
        | none => none
      | none => none
    | none => none
  | _ => none
/-- A slice that is appended to: it has a new number, and of the old one nothing more is told. -/
def vapp (P : Program) (H : Hp) (t : List Value) (cl : Call) (c : Ctl) : Option (Mic × Hp × Ctl) :=
  match cl with
  | { callee := .builtin .append, args := ⟨[s, x]⟩, argTypes := ⟨[ty, ty']⟩ } =>
    match P.underlying ty with
    | some (.slice e) =>
      match P.info? e with
      | some i =>
        match i.zero with
        | some z =>
          match vev t x with
          | .slice (some ⟨bx, ox, none⟩) m cx =>
            match look H bx with
            | some (.cells c2 Tx frx) =>
              if ty = ty' ∧ 0 < m ∧ ox + m * i.size ≤ c2.size ∧ ((c2.toList.drop ox).take (m * i.size)).all (·.oneCell') = true ∧ z.cells.size = i.size ∧ 0 < i.size ∧ domB H c.n = false then
                match vev t s with
                | .slice none 0 0 =>
                  if m ≤ maxLen ∧ m * i.bytes ≤ 140737488355328 then
                    some ({ val := .slice (some ⟨c.n, 0, none⟩) m capU, set := [(c.n, .cells ((c2.toList.drop ox).take (m * i.size)).toArray e (1, i.size))] }, [(bx, .cells c2 Tx frx)], { c with n := c.n + 1 })
                  else none
                | .slice (some ⟨b, 0, none⟩) n cu =>
                  match look H b with
                  | some (.cells c1 T (1, zz)) =>
                    if cu = capU ∧ T = e ∧ zz = i.size ∧ c1.size = n * i.size ∧ n + m ≤ maxLen ∧ (n + m) * i.bytes ≤ 140737488355328 then
                      some ({ val := .slice (some ⟨c.n, 0, none⟩) (n + m) capU, set := [(c.n, .cells (c1.toList ++ (c2.toList.drop ox).take (m * i.size)).toArray e (1, i.size)), (b, deadO)] }, [(bx, .cells c2 Tx frx), (b, .cells c1 T (1, zz))], { c with n := c.n + 1 })
                    else none
                  | _ => none
                | _ => none
              else none
            | _ => none
          | _ => none
        | none => none
      | none => none
    | _ => none
  | _ => none
/-- What is owed of a window: that the place is not ahead of it. -/
def bnd (u1 : Bool) (z off : Nat) (l : List Prop) : List Prop := match u1 with | false => l | true => (z ≤ off) :: l
/-- What is asked of a block that is not looked into: its answer is foretold, or owed. -/
def vask (P : Program) (H : Hp) (t : List Value) (o : Oper) (c : Ctl) : Option (Mic × Hp × Ctl) :=
  match o.op with
  | .load ty x =>
    match vev t x with
    | .pointer (some ⟨b, off, none⟩) =>
      match look H b with
      | some (.chan z cs u1 T u2 u3) =>
        match c.lds with
        | vs :: rest =>
          if wfL noB vs = true then
            match rowT P ty with
            | some true =>
              match P.info? ty with
              | some i => if vs.length = i.size then some ({ val := .agg vs.toArray, set := [] }, [(b, .chan z cs u1 T u2 u3)], { c with lds := rest, obl := ((cs.toList.drop off).take vs.length = vs) :: bnd u1 z off c.obl }) else none
              | none => none
            | some false =>
              match vs with
              | [v] => some ({ val := v, set := [] }, [(b, .chan z cs u1 T u2 u3)], { c with lds := rest, obl := (cs[off]? = some v) :: bnd u1 z off c.obl })
              | _ => none
            | none => none
          else none
        | [] => none
      | _ => none
    | _ => none
  | .store ty x y =>
    match vev t x with
    | .pointer (some ⟨b, off, none⟩) =>
      match look H b with
      | some (.chan z cs u1 T u2 u3) =>
        match P.info? ty with
        | some i =>
          if u1 = false ∧ (vev t y).cells.size = i.size ∧ (vev t y).cells.toList.all (·.oneCell') = true ∧ wfL noB (vev t y).cells.toList = true then
            some ({ val := undef, set := [(b, .chan z (setC cs off (vev t y).cells.toList) u1 T u2 u3)] }, [(b, .chan z cs u1 T u2 u3)], { c with obl := (off + (vev t y).cells.size ≤ cs.size) :: c.obl })
          else none
        | none => none
      | _ => none
    | _ => none
  | .indexAddr ty x ix =>
    match vev t x with
    | .slice (some ⟨b, off, none⟩) n _ =>
      match vev t ix with
      | .int _ i =>
        match look H b with
        | some (.chan z cs u1 T u2 u3) =>
          match P.underlying ty with
          | some (.slice e) =>
            match P.info? e with
            | some ti => some ({ val := .pointer (some ⟨b, off + i.toNat * ti.size, none⟩), set := [] }, [(b, .chan z cs u1 T u2 u3)], { c with obl := (0 ≤ i ∧ i < (n : Int)) :: c.obl })
            | none => none
          | _ => none
        | _ => none
      | _ => none
    | _ => none
  | .slice ty x (some lo) none none =>
    match vev t x with
    | .slice (some ⟨b, off, none⟩) n cp =>
      match vev t lo with
      | .int _ i =>
        match look H b with
        | some (.chan z cs u1 T u2 u3) =>
          match P.underlying ty with
          | some (.slice e) =>
            match P.info? e with
            | some ti => some ({ val := .slice (some ⟨b, if cp = i.toNat then off else off + i.toNat * ti.size, none⟩) (n - i.toNat) (cp - i.toNat), set := [] }, [(b, .chan z cs u1 T u2 u3)], { c with obl := (0 ≤ i ∧ i ≤ (n : Int) ∧ cp ≤ maxLen) :: c.obl })
            | none => none
          | _ => none
        | _ => none
      | _ => none
    | _ => none
  | .binOp op ty x y _ =>
    match c.lds with
    | [] :: rest =>
      match vev t x with
      | .int k i =>
        match vev t y with
        | .int k' j =>
          if k = k' then
            match op with
            | .rem => some ({ val := .int k (i.tmod j), set := [] }, [], { c with lds := rest, obl := (j ≠ 0) :: c.obl })
            | .quo => some ({ val := .int k (k.wrap (i.tdiv j)), set := [] }, [], { c with lds := rest, obl := (j ≠ 0) :: c.obl })
            | _ => none
          else none
        | _ => none
      | _ => none
    | [.nilFunc, .int kr r] :: rest =>
      match vev t x with
      | .int k i =>
        match vev t y with
        | .int k' j =>
          if k = k' ∧ kr = k then
            match op with
            | .rem => some ({ val := .int k r, set := [] }, [], { c with lds := rest, obl := (j ≠ 0 ∧ i.tmod j = r) :: c.obl })
            | _ => none
          else none
        | _ => none
      | _ => none
    | _ => none
  | .index ty x ix =>
    match c.lds with
    | [.nilFunc, v] :: rest =>
      if wfV noB (vev t x) = true ∧ wfV noB (vev t ix) = true ∧ wfV noB v = true then
        some ({ val := v, set := [] }, [], { c with lds := rest, obl := (calm P (Instr.index ty (vev t x) (vev t ix)) = some v) :: c.obl })
      else none
    | _ => none
  | _ => none
/-- A slice that is full, or not looked into, and is appended to. -/
def vapq (P : Program) (H : Hp) (t : List Value) (cl : Call) (c : Ctl) : Option (Mic × Hp × Ctl) :=
  match cl with
  | { callee := .builtin .append, args := ⟨[s, x]⟩, argTypes := ⟨[ty, ty']⟩ } =>
    match P.underlying ty with
    | some (.slice e) =>
      match P.info? e with
      | some i =>
        match i.zero with
        | some z =>
          match vev t x with
          | .slice (some ⟨bx, ox, none⟩) m cx =>
            match look H bx with
            | some (.cells c2 Tx frx) =>
              if ty = ty' ∧ 0 < m ∧ ox + m * i.size ≤ c2.size ∧ ((c2.toList.drop ox).take (m * i.size)).all (·.oneCell') = true ∧ z.cells.size = i.size ∧ 0 < i.size ∧ domB H c.n = false then
                match vev t s with
                | .slice (some ⟨b, 0, none⟩) n cu =>
                  match look H b with
                  | some (.chan zz c1 u1 T u2 u3) =>
                    if cu = capU ∧ T = e ∧ zz = i.size ∧ u1 = false ∧ wfL noB ((c2.toList.drop ox).take (m * i.size)) = true then
                      some ({ val := .slice (some ⟨c.n, 0, none⟩) (n + m) capU, set := [(c.n, .chan zz (c1.toList ++ (c2.toList.drop ox).take (m * i.size)).toArray u1 T u2 u3), (b, deadO)] }, [(bx, .cells c2 Tx frx), (b, .chan zz c1 u1 T u2 u3)], { c with n := c.n + 1, obl := (c1.size = n * i.size ∧ n + m ≤ maxLen ∧ (n + m) * i.bytes ≤ 140737488355328) :: c.obl })
                    else none
                  | some (.cells c1 T (0, 0)) =>
                    if Nat.beq cu capU = false ∧ c1.size = n * i.size ∧ cu = n ∧ n + m ≤ maxLen ∧ (n + m) * i.bytes ≤ 140737488355328 then
                      some ({ val := .slice (some ⟨c.n, 0, none⟩) (n + m) capU, set := [(c.n, .cells (c1.toList ++ (c2.toList.drop ox).take (m * i.size)).toArray e (1, i.size))] }, [(bx, .cells c2 Tx frx), (b, .cells c1 T (0, 0))], { c with n := c.n + 1 })
                    else none
                  | _ => none
                | _ => none
              else none
            | _ => none
          | _ => none
        | none => none
      | none => none
    | _ => none
  | _ => none
/-- A bound of a slice: none, or a number that is told. -/
def natO (t : List Value) : Option Operand → Option (Option Nat)
  | none => some none
  | some x => match vev t x with
    | .int _ (.ofNat i) => some (some i)
    | _ => none
/-- Where a slice of a slice begins; its room is not known. -/
def cutOff (off l n size cp : Nat) (m : Option Nat) : Nat :=
  match m with
  | some m => if m = l then off else off + l * size
  | none => if l = 0 then off else if l < n then off + l * size else if cp = l then off else off + l * size
def cutOK (l h n : Nat) (hi : Bool) (m : Option Nat) : Bool :=
  Nat.ble l h && (Nat.ble h n && match m with | some m => hi && (Nat.ble h m && Nat.ble m n) | none => true)
/-- What else there is: a slice of a window whose cells are told; a slice that is made; what is appended where there is room, or out of a window that is not looked into. -/
def vmore (P : Program) (H : Hp) (t : List Value) (o : Oper) (c : Ctl) : Option (Mic × Hp × Ctl) :=
  match o.op with
  | .slice ty x lo hi mx =>
    match vev t x with
    | .slice (some ⟨b, off, none⟩) n cp =>
      match look H b with
      | some (.cells cs T fr) =>
        match P.underlying ty with
        | some (.slice e) =>
          match P.info? e with
          | some ti =>
            match natO t lo, natO t hi, natO t mx with
            | some l, some h, some m =>
              if winO (.cells cs T fr) = true ∧ cutOK (l.getD 0) (h.getD n) n h.isSome m = true then
                some ({ val := .slice (some ⟨b, cutOff off (l.getD 0) n ti.size cp m, none⟩) (h.getD n - l.getD 0) (m.getD cp - l.getD 0), set := [] }, [(b, .cells cs T fr)], { c with obl := (n ≤ cp ∧ cp ≤ maxLen) :: c.obl })
              else none
            | _, _, _ => none
          | none => none
        | _ => none
      | _ => none
    | _ => none
  | .build ty parts =>
    match P.built ty (parts.toList.map fun p => (p.1, vev t p.2)), (P.info? ty).bind (·.zero) with
    | some cs, some z => if wfA noB z.cells = true then some ({ val := .agg cs, set := [] }, [], c) else none
    | _, _ => none
  | .makeSlice ty l cc =>
    match vev t l, vev t cc with
    | .int _ (.ofNat n), .int _ (.ofNat k) =>
      match P.underlying ty with
      | some (.slice e) =>
        match P.info? e with
        | some i =>
          match i.zero with
          | some z =>
            if n ≤ k ∧ k ≤ maxLen ∧ i.bytes * k ≤ 281474976710656 ∧ wfA noB (zrow (k * i.size) z.cells) = true ∧ domB H c.n = false ∧ Nat.beq k capU = false then
              some ({ val := .slice (some ⟨c.n, 0, none⟩) n k, set := [(c.n, .cells (zrow (k * i.size) z.cells) e (0, 0))] }, [], { c with n := c.n + 1 })
            else none
          | none => none
        | none => none
      | _ => none
    | _, _ => none
  | .call { callee := .builtin .append, args := ⟨[s, x]⟩, argTypes := ⟨[ty, ty']⟩ } =>
    match P.underlying ty with
    | some (.slice e) =>
      match P.info? e with
      | some i =>
        match i.zero with
        | some z =>
          match vev t x with
          | .slice (some ⟨bx, ox, none⟩) m cx =>
            match look H bx with
            | some (.cells c2 Tx frx) =>
              match vev t s with
              | .slice (some ⟨b, 0, none⟩) n cu =>
                match look H b with
                | some (.cells c1 T (0, 0)) =>
                  if 0 < m ∧ ty = ty' ∧ T = e ∧ ox + m * i.size ≤ c2.size ∧ ((c2.toList.drop ox).take (m * i.size)).all (·.oneCell') = true ∧ Nat.beq cu capU = false ∧ n + m ≤ cu ∧ n * i.size + m * i.size ≤ c1.size then
                    some ({ val := .slice (some ⟨b, 0, none⟩) (n + m) cu, set := [(b, .cells (c1.toList.take (n * i.size) ++ (c2.toList.drop ox).take (m * i.size) ++ c1.toList.drop (n * i.size + m * i.size)).toArray T (0, 0))] }, [(bx, .cells c2 Tx frx), (b, .cells c1 T (0, 0))], c)
                  else none
                | _ => none
              | _ => none
            | some (.chan zw cs u1 Tx u2 u3) =>
              match c.lds with
              | (.nilFunc :: vs) :: rest =>
                if ty = ty' ∧ z.cells.size = i.size ∧ 0 < i.size ∧ domB H c.n = false then
                  match vev t s with
                  | .slice none 0 0 =>
                    some ({ val := .slice (some ⟨c.n, 0, none⟩) m capU, set := [(c.n, .chan i.size vs.toArray false e 0 false)] }, [(bx, .chan zw cs u1 Tx u2 u3)], { c with n := c.n + 1, lds := rest, obl := ((0 < m ∧ m ≤ maxLen ∧ m * i.bytes ≤ 140737488355328 ∧ vs.length = m * i.size) ∧ wfL noB vs = true ∧ (cs.toList.drop ox).take vs.length = vs) :: bnd u1 zw ox c.obl })
                  | .slice (some ⟨b, 0, none⟩) 0 0 =>
                    match look H b with
                    | some (.cells ⟨[]⟩ T (0, 0)) =>
                      some ({ val := .slice (some ⟨c.n, 0, none⟩) m capU, set := [(c.n, .chan i.size vs.toArray false e 0 false)] }, [(bx, .chan zw cs u1 Tx u2 u3), (b, .cells ⟨[]⟩ T (0, 0))], { c with n := c.n + 1, lds := rest, obl := ((0 < m ∧ m ≤ maxLen ∧ m * i.bytes ≤ 140737488355328 ∧ vs.length = m * i.size) ∧ wfL noB vs = true ∧ (cs.toList.drop ox).take vs.length = vs) :: bnd u1 zw ox c.obl })
                    | _ => none
                  | _ => none
                else none
              | _ => none
            | _ => none
          | _ => none
        | none => none
      | none => none
    | _ => none
  | _ => none

/-- Is it a key of that kind? -/
def keyB : TypeDesc → Value → Bool
  | .string, .string _ => true
  | .int k, .int k' _ => decide (k' = k)
  | _, _ => false
/-- A bound of a slice, a number that need not be known. -/
def intO (t : List Value) : Option Operand → Option Int
  | none => some 0
  | some x => match vev t x with
    | .int _ i => some i
    | _ => none
/-- Maps: one that is made; a key that is new; what lies at a key. -/
def vmapo (P : Program) (H : Hp) (t : List Value) (o : Oper) (c : Ctl) : Option (Mic × Hp × Ctl) :=
  match o.op with
  | .makeMap _ none => if domB H c.n = false then some ({ val := .map (some c.n), set := [(c.n, .map #[] 0)] }, [], { c with n := c.n + 1 }) else none
  | .insert ty m k x =>
    match vev t m with
    | .map (some b) =>
      match look H b with
      | some (.map es clock) =>
        match P.underlying ty with
        | some (.map kt et) =>
          match P.underlying kt with
          | some d =>
            match Instr.findNow d (vev t k) es.toList 0 with
            | some none => if keyB d (vev t k) = true then some ({ val := undef, set := [(b, .map ⟨es.toList ++ [{ key := vev t k, val := vev t x, born := clock }]⟩ (clock + 1))] }, [(b, .map es clock)], c) else none
            | _ => none
          | none => none
        | _ => none
      | _ => none
    | _ => none
  | .lookup ty m k ok =>
    match vev t m with
    | .map (some b) =>
      match look H b with
      | some (.map es clock) =>
        match P.underlying ty with
        | some (.map kt et) =>
          match P.underlying kt with
          | some d =>
            match Instr.findNow d (vev t k) es.toList 0 with
            | some (some (_, v)) => if keyB d (vev t k) = true then some ({ val := match ok with | true => .tuple ⟨[v, .bool true]⟩ | false => v, set := [] }, [(b, .map es clock)], c) else none
            | some none =>
              match (P.info? et).bind (·.zero) with
              | some z => if keyB d (vev t k) = true ∧ wfV noB z = true then some ({ val := match ok with | true => .tuple ⟨[z, .bool false]⟩ | false => z, set := [] }, [(b, .map es clock)], c) else none
              | none => none
            | none => none
          | none => none
        | _ => none
      | _ => none
    | _ => none
  | .call { callee := .builtin .append, args := ⟨[s, x]⟩, argTypes := ⟨[ty, ty']⟩ } =>
    match P.underlying ty with
    | some (.slice e) =>
      match P.info? e with
      | some i =>
        match vev t x with
        | .slice ax 0 cx =>
          match vev t s with
          | .slice none 0 0 => if ty = ty' then some ({ val := .slice none 0 0, set := [] }, [], c) else none
          | .slice (some ⟨b, off, none⟩) n cu =>
            match Nat.beq cu capU with
            | false => if ty = ty' ∧ n ≤ cu then some ({ val := .slice (some ⟨b, off, none⟩) n cu, set := [] }, [], c) else none
            | true =>
              match look H b with
              | some (.cells c1 T (1, zz)) => if ty = ty' ∧ 0 < zz ∧ n * zz ≤ c1.size then some ({ val := .slice (some ⟨b, off, none⟩) n capU, set := [] }, [(b, .cells c1 T (1, zz))], c) else none
              | _ => none
          | _ => none
        | _ => none
      | none => none
    | _ => none
  | .slice ty x lo (some hi) none =>
    match vev t x with
    | .slice (some ⟨b, off, none⟩) n cp =>
      match intO t lo, vev t hi with
      | some i, .int _ h =>
        match look H b with
        | some (.chan z cs true T u2 u3) =>
          match P.underlying ty with
          | some (.slice e) =>
            match P.info? e with
            | some ti => some ({ val := .slice (some ⟨b, off + i.toNat * ti.size, none⟩) (h.toNat - i.toNat) (cp - i.toNat), set := [] }, [(b, .chan z cs true T u2 u3)], { c with obl := (0 ≤ i ∧ i < h ∧ h ≤ (n : Int) ∧ n ≤ cp ∧ cp ≤ maxLen) :: c.obl })
            | none => none
          | _ => none
        | _ => none
      | _, _ => none
    | _ => none
  | _ => none

end Go.Proofs.YtcjjckokaiobcaaDoor
