/- A walk by computation: values whose blocks are numbered anew, and what an operation makes of them. -/
import Derived.Below
import Derived.Orders
import Derived.CallsIn
import Derived.Deep.MidRow
import Derived.KernelRfl
namespace Go.Proofs.Ytpbhoamojocbpaa
open Go Go.RowKit
set_option linter.unusedSimpArgs false
set_option linter.unusedVariables false

def renF (β : Nat → Nat) : Fn → Fn
  | .yield l => .yield (β l)
  | .func f => .func f
  | .method n => .method n
  | .methodOf t n => .methodOf t n
  | .via t p f b => .via t p f b

def renP (β : Nat → Nat) (a : Addr) : Addr := { block := β a.block, off := a.off, spot := a.spot }

mutual
/-- A value whose blocks get other numbers. -/
def ren (β : Nat → Nat) : Value → Value
  | .bool b => .bool b
  | .int k n => .int k n
  | .float k n => .float k n
  | .complex k x y => .complex k x y
  | .string s => .string s
  | .pointer none => .pointer none
  | .pointer (some a) => .pointer (some (renP β a))
  | .slice none l c => .slice none l c
  | .slice (some a) l c => .slice (some (renP β a)) l c
  | .map none => .map none
  | .map (some r) => .map (some (β r))
  | .chan none => .chan none
  | .chan (some r) => .chan (some (β r))
  | .func fn first captured => .func (renF β fn) (renA β first) (renA β captured)
  | .nilFunc => .nilFunc
  | .iface t v => .iface t (ren β v)
  | .nilIface => .nilIface
  | .agg cs => .agg (renA β cs)
  | .tuple vs => .tuple (renA β vs)
def renA (β : Nat → Nat) : Array Value → Array Value
  | ⟨l⟩ => ⟨renL β l⟩
def renL (β : Nat → Nat) : List Value → List Value
  | [] => []
  | v :: l => ren β v :: renL β l
end

def wfF (p : Nat → Bool) : Fn → Bool
  | .yield l => p l
  | .func _ => true
  | .method _ => true
  | .methodOf _ _ => true
  | .via _ _ _ _ => true

mutual
/-- The test holds of the numbers of all its blocks. -/
def wfV (p : Nat → Bool) : Value → Bool
  | .bool _ => true
  | .int _ _ => true
  | .float _ _ => true
  | .complex _ _ _ => true
  | .string _ => true
  | .pointer none => true
  | .pointer (some a) => p a.block
  | .slice none _ _ => true
  | .slice (some a) _ _ => p a.block
  | .map none => true
  | .map (some r) => p r
  | .chan none => true
  | .chan (some r) => p r
  | .func fn first captured => wfF p fn && wfA p first && wfA p captured
  | .nilFunc => true
  | .iface _ v => wfV p v
  | .nilIface => true
  | .agg cs => wfA p cs
  | .tuple vs => wfA p vs
def wfA (p : Nat → Bool) : Array Value → Bool
  | ⟨l⟩ => wfL p l
def wfL (p : Nat → Bool) : List Value → Bool
  | [] => true
  | v :: l => wfV p v && wfL p l
end

theorem renL_map (β : Nat → Nat) : ∀ l, renL β l = l.map (ren β)
  | [] => rfl
  | v :: l => by rw [renL, renL_map β l]; rfl
theorem renA_map (β : Nat → Nat) (a : Array Value) : renA β a = a.map (ren β) := by
  obtain ⟨l⟩ := a
  rw [renA, renL_map]
  simp
theorem wfL_all (p : Nat → Bool) : ∀ l, wfL p l = true ↔ ∀ v ∈ l, wfV p v = true
  | [] => by simp [wfL]
  | v :: l => by rw [wfL, Bool.and_eq_true, wfL_all p l]; simp
theorem wfA_list (p : Nat → Bool) (a : Array Value) : wfA p a = wfL p a.toList := by
  obtain ⟨l⟩ := a
  rfl
theorem renF_congr {β γ : Nat → Nat} {p : Nat → Bool} (h : ∀ i, p i = true → β i = γ i) {f : Fn} (hw : wfF p f = true) : renF β f = renF γ f := by
  cases f with
  | yield l => simp only [wfF] at hw; simp only [renF, h l hw]
  | _ => rfl
mutual
theorem ren_congr {β γ : Nat → Nat} {p : Nat → Bool} (h : ∀ i, p i = true → β i = γ i) : ∀ (v : Value), wfV p v = true → ren β v = ren γ v
  | .bool b, _ => rfl
  | .int k m, _ => rfl
  | .float k m, _ => rfl
  | .complex k x y, _ => rfl
  | .string s, _ => rfl
  | .pointer none, _ => rfl
  | .pointer (some a), hw => by simp only [wfV] at hw; simp only [ren, renP, h _ hw]
  | .slice none l c, _ => rfl
  | .slice (some a) l c, hw => by simp only [wfV] at hw; simp only [ren, renP, h _ hw]
  | .map none, _ => rfl
  | .map (some r), hw => by simp only [wfV] at hw; simp only [ren, h _ hw]
  | .chan none, _ => rfl
  | .chan (some r), hw => by simp only [wfV] at hw; simp only [ren, h _ hw]
  | .func fn first captured, hw => by
    simp only [wfV, Bool.and_eq_true] at hw
    simp only [ren, renF_congr h hw.1.1, renA_congr h first hw.1.2, renA_congr h captured hw.2]
  | .nilFunc, _ => rfl
  | .iface t v, hw => by simp only [wfV] at hw; simp only [ren, ren_congr h v hw]
  | .nilIface, _ => rfl
  | .agg cs, hw => by simp only [wfV] at hw; simp only [ren, renA_congr h cs hw]
  | .tuple cs, hw => by simp only [wfV] at hw; simp only [ren, renA_congr h cs hw]
theorem renA_congr {β γ : Nat → Nat} {p : Nat → Bool} (h : ∀ i, p i = true → β i = γ i) : ∀ (v : Array Value), wfA p v = true → renA β v = renA γ v
  | ⟨l⟩, hw => by simp only [wfA] at hw; simp only [renA, renL_congr h l hw]
theorem renL_congr {β γ : Nat → Nat} {p : Nat → Bool} (h : ∀ i, p i = true → β i = γ i) : ∀ (v : List Value), wfL p v = true → renL β v = renL γ v
  | [], _ => rfl
  | v :: l, hw => by
    simp only [wfL, Bool.and_eq_true] at hw
    simp only [renL, ren_congr h v hw.1, renL_congr h l hw.2]
end
theorem wfF_mono {p q : Nat → Bool} (h : ∀ i, p i = true → q i = true) {f : Fn} (hw : wfF p f = true) : wfF q f = true := by
  cases f with
  | yield l => simp only [wfF] at hw ⊢; exact h _ hw
  | _ => rfl
mutual
theorem wfV_mono {p q : Nat → Bool} (h : ∀ i, p i = true → q i = true) : ∀ (v : Value), wfV p v = true → wfV q v = true
  | .bool b, _ => rfl
  | .int k _, _ => rfl
  | .float k _, _ => rfl
  | .complex k x y, _ => rfl
  | .string s, _ => rfl
  | .pointer none, _ => rfl
  | .pointer (some a), hw => by simp only [wfV] at hw ⊢; exact h _ hw
  | .slice none l c, _ => rfl
  | .slice (some a) l c, hw => by simp only [wfV] at hw ⊢; exact h _ hw
  | .map none, _ => rfl
  | .map (some r), hw => by simp only [wfV] at hw ⊢; exact h _ hw
  | .chan none, _ => rfl
  | .chan (some r), hw => by simp only [wfV] at hw ⊢; exact h _ hw
  | .func fn first captured, hw => by
    simp only [wfV, Bool.and_eq_true] at hw ⊢
    exact ⟨⟨wfF_mono h hw.1.1, wfA_mono h first hw.1.2⟩, wfA_mono h captured hw.2⟩
  | .nilFunc, _ => rfl
  | .iface t v, hw => by simp only [wfV] at hw ⊢; exact wfV_mono h v hw
  | .nilIface, _ => rfl
  | .agg cs, hw => by simp only [wfV] at hw ⊢; exact wfA_mono h cs hw
  | .tuple cs, hw => by simp only [wfV] at hw ⊢; exact wfA_mono h cs hw
theorem wfA_mono {p q : Nat → Bool} (h : ∀ i, p i = true → q i = true) : ∀ (v : Array Value), wfA p v = true → wfA q v = true
  | ⟨l⟩, hw => by simp only [wfA] at hw ⊢; exact wfL_mono h l hw
theorem wfL_mono {p q : Nat → Bool} (h : ∀ i, p i = true → q i = true) : ∀ (v : List Value), wfL p v = true → wfL q v = true
  | [], _ => rfl
  | v :: l, hw => by
    simp only [wfL, Bool.and_eq_true] at hw ⊢
    exact ⟨wfV_mono h v hw.1, wfL_mono h l hw.2⟩
end
theorem renF_id (f : Fn) : renF (fun i => i) f = f := by cases f <;> rfl
mutual
theorem ren_id : ∀ (v : Value), ren (fun i => i) v = v
  | .bool b => rfl
  | .int k m => rfl
  | .float k m => rfl
  | .complex k x y => rfl
  | .string s => rfl
  | .pointer none => rfl
  | .pointer (some a) => rfl
  | .slice none l c => rfl
  | .slice (some a) l c => rfl
  | .map none => rfl
  | .map (some r) => rfl
  | .chan none => rfl
  | .chan (some r) => rfl
  | .func fn first captured => by simp only [ren, renF_id, renA_id first, renA_id captured]
  | .nilFunc => rfl
  | .iface t v => by simp only [ren, ren_id v]
  | .nilIface => rfl
  | .agg cs => by simp only [ren, renA_id cs]
  | .tuple cs => by simp only [ren, renA_id cs]
theorem renA_id : ∀ (v : Array Value), renA (fun i => i) v = v
  | ⟨l⟩ => by simp only [renA, renL_id l]
theorem renL_id : ∀ (v : List Value), renL (fun i => i) v = v
  | [] => rfl
  | v :: l => by simp only [renL, ren_id v, renL_id l]
end
def noB (_ : Nat) : Bool := false
/-- A value without a block is itself. -/
theorem ren_plain (β : Nat → Nat) {v : Value} (h : wfV noB v = true) : ren β v = v :=
  (ren_congr (p := noB) (fun _ h => (by cases h)) v h).trans (ren_id v)
theorem renA_plain (β : Nat → Nat) {v : Array Value} (h : wfA noB v = true) : renA β v = v :=
  (renA_congr (p := noB) (fun _ h => (by cases h)) v h).trans (renA_id v)

theorem ren_cells (β : Nat → Nat) (v : Value) : (ren β v).cells = renA β v.cells := by
  cases v with
  | agg cs => rfl
  | pointer a => cases a <;> rfl
  | slice a l c => cases a <;> rfl
  | map r => cases r <;> rfl
  | chan r => cases r <;> rfl
  | _ => rfl
theorem ren_oneCell (β : Nat → Nat) (v : Value) : (ren β v).oneCell' = v.oneCell' := by
  cases v with
  | pointer a => cases a <;> rfl
  | slice a l c => cases a <;> rfl
  | map r => cases r <;> rfl
  | chan r => cases r <;> rfl
  | _ => rfl

/-- What a computation gives that asks nothing of the world. -/
def calm {α : Type} (P : Program) : Sem α → Option α
  | .pure a => some a
  | .program k => calm P (k P)
  | .mark _ k => calm P k
  | _ => none
theorem calm_run {α : Type} {P : Program} {s : Sem α} {a : α} (h : calm P s = some a) (w : World) : s.run P w = .ok a w := by
  induction s with
  | pure b => simp only [calm, Option.some.injEq] at h; subst h; rfl
  | program k ih => exact ih P h
  | mark m k ih => exact ih h
  | _ => simp [calm] at h
theorem calm_bind {α β : Type} (P : Program) (s : Sem α) (f : α → Sem β) : calm P (s >>= f) = (calm P s).bind fun a => calm P (f a) := by
  show calm P (s.bind f) = _
  induction s with
  | pure b => rfl
  | program k ih => exact ih P
  | mark m k ih => exact ih
  | _ => rfl
@[simp] theorem calm_pure {α : Type} (P : Program) (a : α) : calm P (pure a : Sem α) = some a := rfl
@[simp] theorem calm_stuck {α : Type} (P : Program) (s : String) : calm P (stuck s : Sem α) = none := rfl
@[simp] theorem calm_unsupported {α : Type} (P : Program) (u : Unsupported) : calm P (unsupported u : Sem α) = none := rfl
@[simp] theorem calm_goPanic {α : Type} (P : Program) (v : Value) : calm P (goPanic v : Sem α) = none := rfl

end Go.Proofs.Ytpbhoamojocbpaa
