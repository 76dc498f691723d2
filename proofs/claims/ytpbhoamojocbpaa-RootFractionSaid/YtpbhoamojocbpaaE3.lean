/- A walk by computation: numbered blocks in a world, and the operations that read and write them. -/
import Derived.Test.YtpbhoamojocbpaaEq
import Derived.RangeFuncRecord
namespace Go.Proofs.Ytpbhoamojocbpaa
open Go Go.RowKit
set_option linter.unusedSimpArgs false
set_option linter.unusedVariables false

abbrev Hp := List (Nat × Obj)
def look : Hp → Nat → Option Obj
  | [], _ => none
  | (k, o) :: r, i => if k = i then some o else look r i
def hput : Hp → Nat → Obj → Hp
  | [], i, o => [(i, o)]
  | (k, x) :: r, i, o => if k = i then (i, o) :: r else (k, x) :: hput r i o
theorem look_hput (i : Nat) (o : Obj) (j : Nat) : ∀ H, look (hput H i o) j = if j = i then some o else look H j
  | [] => by simp only [hput, look, eq_comm]
  | (k, x) :: r => by
    simp only [hput]
    by_cases h : k = i
    · subst h
      simp only [if_true, look]
      by_cases hj : j = k
      · subst hj; simp
      · rw [if_neg (fun e => hj e.symm), if_neg hj, if_neg (fun e => hj e.symm)]
    · rw [if_neg h, look, look_hput i o j r, look]
      by_cases hj : k = j
      · subst hj; rw [if_pos rfl, if_pos rfl, if_neg h]
      · rw [if_neg hj, if_neg hj]
def domB (H : Hp) (i : Nat) : Bool := (look H i).isSome
theorem domB_of {H : Hp} {i : Nat} {o : Obj} (h : look H i = some o) : domB H i = true := by unfold domB; rw [h]; rfl
theorem domB_iff {H : Hp} {i : Nat} : domB H i = true ↔ ∃ o, look H i = some o := Option.isSome_iff_exists
theorem domB_hput {H : Hp} {i : Nat} {o : Obj} {j : Nat} : domB (hput H i o) j = (decide (j = i) || domB H j) := by
  unfold domB
  rw [look_hput]
  by_cases h : j = i <;> simp [h]

/-- What is told of a block that lies: of a loop's record all but whose it is. -/
def LiesO (β : Nat → Nat) : Obj → Option Obj → Prop
  | .cells c T fr, x => x = some (.cells (renA β c) T fr)
  | .loop r, x => ∃ fn, x = some (.loop { r with fn := fn, tmps := renA β r.tmps, defers := β r.defers })
  | o, x => x = some o
def wfO (p : Nat → Bool) : Obj → Bool
  | .cells c _ fr => wfA p c && (fr.1 == 0 && fr.2 == 0)
  | .loop r => wfA p r.tmps && p r.defers
  | .deferred none => true
  | .deferred (some []) => true
  | .stringIter _ _ => true
  | _ => false
theorem liesO_congr {β γ : Nat → Nat} {p : Nat → Bool} (h : ∀ i, p i = true → β i = γ i) {o : Obj} {x : Option Obj} (hw : wfO p o = true) (hl : LiesO β o x) : LiesO γ o x := by
  cases o with
  | cells c T fr => simp only [wfO, Bool.and_eq_true] at hw; simp only [LiesO, ← renA_congr h c hw.1]; exact hl
  | loop r =>
    simp only [wfO, Bool.and_eq_true] at hw
    obtain ⟨fn, hl⟩ := hl
    exact ⟨fn, by rw [← renA_congr h r.tmps hw.1, ← h r.defers hw.2]; exact hl⟩
  | _ => exact hl
theorem liesO_some {β : Nat → Nat} {o : Obj} {x : Option Obj} (hl : LiesO β o x) : ∃ y, x = some y := by
  cases o with
  | loop r => obtain ⟨fn, hl⟩ := hl; exact ⟨_, hl⟩
  | _ => exact ⟨_, hl⟩
theorem wfO_mono {p q : Nat → Bool} (h : ∀ i, p i = true → q i = true) {o : Obj} (hw : wfO p o = true) : wfO q o = true := by
  cases o with
  | cells c T fr => simp only [wfO, Bool.and_eq_true] at hw ⊢; exact ⟨wfA_mono h c hw.1, hw.2⟩
  | loop r => simp only [wfO, Bool.and_eq_true] at hw ⊢; exact ⟨wfA_mono h _ hw.1, h _ hw.2⟩
  | deferred d =>
    cases d with
    | none => rfl
    | some l => cases l with
      | nil => rfl
      | cons x l => cases hw
  | stringIter s k => rfl
  | _ => cases hw

/-- But for the blocks A, what lay lies as it lay. -/
structure Kp (A : Nat → Prop) (w0 w : World) : Prop where
  os : w.os = w0.os
  tape : w.tape = w0.tape
  output : w.output = w0.output
  size : w0.heap.size ≤ w.heap.size
  block : ∀ k, k < w0.heap.size → ¬ A k → w.heap[k]? = w0.heap[k]?
theorem Kp.refl (A : Nat → Prop) (w : World) : Kp A w w := ⟨rfl, rfl, rfl, Nat.le_refl _, fun _ _ _ => rfl⟩
theorem Kp.trans {A : Nat → Prop} {a b c : World} (h : Kp A a b) (k : Kp A b c) : Kp A a c :=
  ⟨k.os.trans h.os, k.tape.trans h.tape, k.output.trans h.output, Nat.le_trans h.size k.size, fun i hi hA => (k.block i (Nat.lt_of_lt_of_le hi h.size) hA).trans (h.block i hi hA)⟩
theorem Kp.below {A : Nat → Prop} {w0 w : World} {B : Nat} (h : Kp A w0 w) (hB : B ≤ w0.heap.size) (hA : ∀ k, A k → B ≤ k) : Below B w0 w :=
  ⟨h.os, h.tape, h.output, h.size, fun k hk => h.block k (by omega) (fun a => by have := hA k a; omega)⟩
theorem Kp.of_below {A : Nat → Prop} {w0 w : World} (h : Below w0.heap.size w0 w) : Kp A w0 w := ⟨h.os, h.tape, h.output, h.size, fun k hk _ => h.block k hk⟩
theorem Kp.drew {A : Nat → Prop} {w0 w : World} (h : Kp A w0 w) : Kp A w0 w.drew := ⟨h.os, h.tape, h.output, h.size, h.block⟩

/-- The numbered blocks lie in the world, each at a place of its own, one of A's or a new one. -/
structure Rel (A : Nat → Prop) (w0 : World) (β : Nat → Nat) (H : Hp) (w : World) : Prop where
  lies : ∀ i o, look H i = some o → LiesO β o w.heap[β i]?
  inj : ∀ i j, domB H i = true → domB H j = true → β i = β j → i = j
  own : ∀ i, domB H i = true → A (β i) ∨ w0.heap.size ≤ β i
  wf : ∀ i o, look H i = some o → wfO (domB H) o = true
  kp : Kp A w0 w

theorem Rel.nil (A : Nat → Prop) (β : Nat → Nat) (w : World) : Rel A w β [] w :=
  ⟨fun _ _ h => (by cases h), fun _ _ h => (by cases h), fun _ h => (by cases h), fun _ _ h => (by cases h), Kp.refl _ _⟩
theorem Rel.lt {A : Nat → Prop} {w0 : World} {β : Nat → Nat} {H : Hp} {w : World} (h : Rel A w0 β H w) {i : Nat} (hi : domB H i = true) : β i < w.heap.size := by
  obtain ⟨o, ho⟩ := domB_iff.1 hi
  obtain ⟨y, hy⟩ := liesO_some (h.lies i o ho)
  exact (Array.getElem?_eq_some_iff.1 hy).1
theorem Rel.drew {A : Nat → Prop} {w0 : World} {β : Nat → Nat} {H : Hp} {w : World} (h : Rel A w0 β H w) : Rel A w0 β H w.drew := ⟨h.lies, h.inj, h.own, h.wf, h.kp.drew⟩
/-- Another numbering that agrees, and another list that tells the same. -/
theorem Rel.congr {A : Nat → Prop} {w0 : World} {β γ : Nat → Nat} {H G : Hp} {w : World} (h : Rel A w0 β H w) (hb : ∀ i, domB H i = true → γ i = β i) (hg : ∀ i, look G i = look H i) : Rel A w0 γ G w := by
  have hd : ∀ i, domB G i = domB H i := fun i => by unfold domB; rw [hg]
  refine ⟨fun i o ho => ?_, fun i j hi hj e => ?_, fun i hi => ?_, fun i o ho => ?_, h.kp⟩
  · rw [hg] at ho
    rw [hb i (domB_of ho)]
    exact liesO_congr (fun j hj => (hb j hj).symm) (h.wf i o ho) (h.lies i o ho)
  · rw [hd] at hi hj
    rw [hb i hi, hb j hj] at e
    exact h.inj i j hi hj e
  · rw [hd] at hi
    rw [hb i hi]; exact h.own i hi
  · rw [hg] at ho
    exact wfO_mono (fun j hj => by rw [hd]; exact hj) (h.wf i o ho)
def upd1 (β : Nat → Nat) (n x : Nat) (i : Nat) : Nat := if i = n then x else β i
theorem upd1_ne {β : Nat → Nat} {n x i : Nat} (h : i ≠ n) : upd1 β n x i = β i := if_neg h
theorem upd1_self {β : Nat → Nat} {n x : Nat} : upd1 β n x n = x := if_pos rfl
theorem Rel.new {A : Nat → Prop} {w0 : World} {β : Nat → Nat} {H : Hp} {w : World} (h : Rel A w0 β H w) {n : Nat} (hn : domB H n = false) {o x : Obj} (ho : wfO (domB H) o = true) (hx : LiesO β o (some x)) :
    Rel A w0 (upd1 β n w.heap.size) (hput H n o) (w.alloc x) := by
  have hag : ∀ i, domB H i = true → upd1 β n w.heap.size i = β i := fun i hi => upd1_ne (fun e => by rw [e, hn] at hi; cases hi)
  have hdom : ∀ i, domB (hput H n o) i = true → i = n ∨ domB H i = true := fun i hi => by
    rw [domB_hput, Bool.or_eq_true, decide_eq_true_eq] at hi; exact hi
  have hox := hx
  refine ⟨fun i x hx => ?_, fun i j hi hj e => ?_, fun i hi => ?_, fun i x hx => ?_, ?_⟩
  · rw [look_hput] at hx
    by_cases hi : i = n
    · subst hi
      rw [if_pos rfl] at hx
      simp only [Option.some.injEq] at hx
      subst hx
      rw [upd1_self]
      refine liesO_congr (fun j hj => (hag j hj).symm) ho ?_
      have : ∀ y, (w.alloc y).heap[w.heap.size]? = some y := fun y => by
        show (w.heap.push _)[w.heap.size]? = _
        simp
      rw [this]
      exact hox
    · rw [if_neg hi] at hx
      rw [upd1_ne hi, Below.heap_alloc _ _ _ (h.lt (domB_of hx))]
      exact liesO_congr (fun j hj => (hag j hj).symm) (h.wf i x hx) (h.lies i x hx)
  · rcases hdom i hi with hi' | hi' <;> rcases hdom j hj with hj' | hj'
    · rw [hi', hj']
    · rw [hi', upd1_self, hag j hj'] at e
      have := h.lt hj'
      omega
    · rw [hj', upd1_self, hag i hi'] at e
      have := h.lt hi'
      omega
    · rw [hag i hi', hag j hj'] at e; exact h.inj i j hi' hj' e
  · rcases hdom i hi with hi' | hi'
    · rw [hi', upd1_self]; exact .inr h.kp.size
    · rw [hag i hi']; exact h.own i hi'
  · rw [look_hput] at hx
    refine wfO_mono (p := domB H) (fun j hj => by rw [domB_hput, hj, Bool.or_true]) ?_
    by_cases hi : i = n
    · rw [if_pos hi] at hx
      simp only [Option.some.injEq] at hx
      subst hx
      exact ho
    · rw [if_neg hi] at hx
      exact h.wf i x hx
  · exact h.kp.trans (Kp.of_below ((Below.refl _ w).alloc (Nat.le_refl _) _))

/-- Cells that are written, from a place on. -/
def setC : Array Value → Nat → List Value → Array Value
  | c, _, [] => c
  | c, o, v :: r => setC (c.setIfInBounds o v) (o + 1) r
theorem setC_ren (β : Nat → Nat) : ∀ (vs : List Value) (c : Array Value) (o : Nat), renA β (setC c o vs) = setC (renA β c) o (renL β vs)
  | [], _, _ => rfl
  | v :: r, c, o => by
    rw [setC, setC_ren β r, renL, setC]
    congr 1
    rw [renA_map, renA_map, Array.map_setIfInBounds]
theorem setC_wf (p : Nat → Bool) : ∀ (vs : List Value) (c : Array Value) (o : Nat), wfL p vs = true → wfA p c = true → wfA p (setC c o vs) = true
  | [], _, _, _, h => h
  | v :: r, c, o, hv, h => by
    simp only [wfL, Bool.and_eq_true] at hv
    refine setC_wf p r _ _ hv.2 ?_
    rw [wfA_list, wfL_all] at h ⊢
    intro x hx
    rw [Array.toList_setIfInBounds] at hx
    rcases List.mem_or_eq_of_mem_set hx with hx | rfl
    · exact h x hx
    · exact hv.1
theorem heap_setCells (b : Nat) : ∀ (vs : List Value) (o : Nat) (w : World) (c : Array Value) (T : TypeId) (fr : Nat × Nat), w.heap[b]? = some (.cells c T fr) →
    (w.setCells b o vs).heap[b]? = some (.cells (setC c o vs) T fr)
  | [], _, _, _, _, _, h => h
  | v :: r, o, w, c, T, fr, h => by
    rw [World.setCells, setC]
    refine heap_setCells b r _ _ _ _ _ ?_
    obtain ⟨hlt, hk⟩ := Array.getElem?_eq_some_iff.1 h
    show (w.heap.modify b _)[b]? = _
    rw [Array.getElem?_eq_getElem (by rw [Array.size_modify]; exact hlt), Array.getElem_modify_self, hk]
    rfl
theorem heap_setCells_ne (b k : Nat) (hk : k ≠ b) : ∀ (vs : List Value) (o : Nat) (w : World), (w.setCells b o vs).heap[k]? = w.heap[k]?
  | [], _, _ => rfl
  | v :: r, o, w => by
    rw [World.setCells, heap_setCells_ne b k hk r]
    exact Below.heap_setCell w ⟨b, o, none⟩ v k hk
theorem below_setCells (B b : Nat) (hb : B ≤ b) : ∀ (vs : List Value) (o : Nat) (w : World), Below B w (w.setCells b o vs)
  | [], _, w => Below.refl _ _
  | v :: r, o, w => ((Below.refl B w).setCell (p := ⟨b, o, none⟩) hb v).trans (below_setCells B b hb r _ _)
theorem Rel.sto {A : Nat → Prop} {w0 : World} {β : Nat → Nat} {H : Hp} {w : World} (h : Rel A w0 β H w) {b : Nat} {c : Array Value} {T : TypeId} {fr : Nat × Nat} (hb : look H b = some (.cells c T fr)) (o : Nat) {vs : List Value} (hv : wfL (domB H) vs = true) :
    Rel A w0 β (hput H b (.cells (setC c o vs) T fr)) (w.setCells (β b) o (renL β vs)) := by
  have hwf := h.wf b _ hb
  simp only [wfO, Bool.and_eq_true] at hwf
  have hdom : ∀ i, domB (hput H b (.cells (setC c o vs) T fr)) i = domB H i := fun i => by
    rw [domB_hput]
    by_cases hi : i = b
    · subst hi; rw [domB_of hb, Bool.or_true]
    · rw [decide_eq_false hi, Bool.false_or]
  refine ⟨fun i x hx => ?_, fun i j hi hj e => ?_, fun i hi => ?_, fun i x hx => ?_, ?_⟩
  · rw [look_hput] at hx
    by_cases hi : i = b
    · subst hi
      rw [if_pos rfl] at hx
      simp only [Option.some.injEq] at hx
      subst hx
      have := heap_setCells (β i) (renL β vs) o w _ _ _ (h.lies i _ hb)
      rw [this]
      simp only [LiesO, setC_ren]
    · rw [if_neg hi] at hx
      rw [heap_setCells_ne _ _ (fun e => hi (h.inj i b (domB_of hx) (domB_of hb) e))]
      exact h.lies i x hx
  · rw [hdom] at hi hj
    exact h.inj i j hi hj e
  · rw [hdom] at hi
    exact h.own i hi
  · refine wfO_mono (p := domB H) (fun j hj => by rw [hdom]; exact hj) ?_
    rw [look_hput] at hx
    by_cases hi : i = b
    · rw [if_pos hi] at hx
      simp only [Option.some.injEq] at hx
      subst hx
      simp only [wfO, Bool.and_eq_true]
      exact ⟨setC_wf _ _ _ _ hv hwf.1, hwf.2⟩
    · rw [if_neg hi] at hx
      exact h.wf i x hx
  · have hk := below_setCells 0 (β b) (Nat.zero_le _) (renL β vs) o w
    refine ⟨hk.os.trans h.kp.os, hk.tape.trans h.kp.tape, hk.output.trans h.kp.output, Nat.le_trans h.kp.size hk.size, fun k hk2 hA => ?_⟩
    rw [heap_setCells_ne _ _ (fun e => ?_)]
    · exact h.kp.block k hk2 hA
    · rcases h.own b (domB_of hb) with h1 | h1
      · rw [← e] at h1; exact hA h1
      · omega

/-- A record that is written anew. -/
theorem Rel.obj {A : Nat → Prop} {w0 : World} {β : Nat → Nat} {H : Hp} {w : World} (h : Rel A w0 β H w) {b : Nat} (hb : domB H b = true) {o x : Obj} (ho : wfO (domB H) o = true) (hx : LiesO β o (some x)) :
    Rel A w0 β (hput H b o) (w.putObj (β b) x) := by
  have hdom : ∀ i, domB (hput H b o) i = domB H i := fun i => by
    rw [domB_hput]
    by_cases hi : i = b
    · subst hi; rw [hb, Bool.or_true]
    · rw [decide_eq_false hi, Bool.false_or]
  have hox := hx
  refine ⟨fun i y hy => ?_, fun i j hi hj e => ?_, fun i hi => ?_, fun i y hy => ?_, ?_⟩
  · rw [look_hput] at hy
    by_cases hi : i = b
    · subst hi
      rw [if_pos rfl] at hy
      simp only [Option.some.injEq] at hy
      subst hy
      rw [World.putObj_heap_same (h.lt hb)]
      exact hox
    · rw [if_neg hi] at hy
      rw [World.putObj_heap_other (fun e => hi (h.inj i b (domB_of hy) hb e))]
      exact h.lies i y hy
  · rw [hdom] at hi hj
    exact h.inj i j hi hj e
  · rw [hdom] at hi
    exact h.own i hi
  · refine wfO_mono (p := domB H) (fun j hj => by rw [hdom]; exact hj) ?_
    rw [look_hput] at hy
    by_cases hi : i = b
    · rw [if_pos hi] at hy
      simp only [Option.some.injEq] at hy
      subst hy
      exact ho
    · rw [if_neg hi] at hy
      exact h.wf i y hy
  · refine ⟨h.kp.os, h.kp.tape, h.kp.output, by rw [World.putObj_size]; exact h.kp.size, fun k hk2 hA => ?_⟩
    rw [World.putObj_heap_other (fun e => ?_)]
    · exact h.kp.block k hk2 hA
    · rcases h.own b hb with h1 | h1
      · rw [← e] at h1; exact hA h1
      · omega

inductive Eff where
  | val (v : Value)
  | sto (b off : Nat) (vs : List Value)
  | new (c : Array Value) (T : TypeId)

def rowT (P : Program) (t : TypeId) : Option Bool :=
  (P.underlying t).map fun d => match d with | .struct _ | .array _ _ => true | _ => false

/-- A call that is no function's: len of a slice; else what only reckons with plain values. -/
def veffCall (P : Program) (ρ : Operand → Value) (o : Oper) (c : Call) : Option Eff :=
  match c with
  | { callee := .builtin .len, args := ⟨[x]⟩, argTypes := ⟨[ty]⟩ } =>
    match ρ x with
    | .slice _ l _ =>
      match P.underlying ty with
      | some (.slice _) => some (.val (.int .i64 l))
      | _ => none
    | _ =>
      match calm P (execOp ρ o) with
      | some (.value v) => if o.op.operands.toList.all (fun x => wfV noB (ρ x)) && wfV noB v then some (.val v) else none
      | _ => none
  | _ =>
    match calm P (execOp ρ o) with
    | some (.value v) => if o.op.operands.toList.all (fun x => wfV noB (ρ x)) && wfV noB v then some (.val v) else none
    | _ => none

/-- What an operation does. -/
def veff (P : Program) (H : Hp) (ρ : Operand → Value) (o : Oper) : Option Eff :=
  match o.op with
  | .load t x =>
    match ρ x with
    | .pointer (some ⟨b, off, none⟩) =>
      match look H b with
      | some (.cells c _ _) =>
        match rowT P t with
        | some true =>
          match P.info? t with
          | some i => if off + i.size ≤ c.size then some (.val (.agg ((c.toList.drop off).take i.size).toArray)) else none
          | none => none
        | some false => (c[off]?).map .val
        | none => none
      | _ => none
    | _ => none
  | .store t x y =>
    match ρ x with
    | .pointer (some ⟨b, off, none⟩) =>
      match look H b with
      | some (.cells c _ _) =>
        match P.info? t with
        | some i =>
          if (ρ y).cells.size = i.size ∧ off + (ρ y).cells.size ≤ c.size ∧ (ρ y).cells.toList.all (·.oneCell') = true then some (.sto b off (ρ y).cells.toList) else none
        | none => none
      | _ => none
    | _ => none
  | .alloc t =>
    match P.info? t with
    | some i =>
      match i.zero with
      | some z => if wfA noB z.cells then some (.new z.cells t) else none
      | none => none
    | none => none
  | .box t x => some (.new (ρ x).cells t)
  | .select _ _ => none
  | .pick c a b =>
    match ρ c with
    | .bool t =>
      match ρ a, ρ b with
      | .bool x, .bool y => some (.val (.bool (if t then x else y)))
      | u, v => some (.val (if t then u else v))
    | _ => none
  | .call c => veffCall P ρ o c
  | .binOp .shl t x y ty =>
    match ρ x, ρ y with
    | .int k a, .int _ (.ofNat s) => some (.val (.int k (k.wrap (a * 2 ^ (min s k.bits)))))
    | _, _ => none
  | .binOp .shr t x y ty =>
    match ρ x, ρ y with
    | .int k a, .int _ (.ofNat s) => some (.val (.int k (a.fdiv (2 ^ (min s k.bits)))))
    | _, _ => none
  | .binOp op t x y ty =>
    match ρ x, ρ y with
    | .agg xs, .agg ys =>
      match op with
      | .eql => match arrEq P t xs ys with | some r => some (.val (.bool r)) | none => none
      | .neq => match arrEq P t xs ys with | some r => some (.val (.bool (!r))) | none => none
      | _ => none
    | _, _ =>
      match calm P (execOp ρ o) with
      | some (.value v) => if safeOp o.op || (o.op.operands.toList.all (fun x => wfV noB (ρ x)) && wfV noB v) then some (.val v) else none
      | _ => none
  | op =>
    match calm P (execOp ρ o) with
    | some (.value v) => if safeOp op || (op.operands.toList.all (fun x => wfV noB (ρ x)) && wfV noB v) then some (.val v) else none
    | _ => none

theorem execOp_of {P : Program} {ρ ρ' : Operand → Value} {β : Nat → Nat} {o : Oper} (hs : ∀ cs b, o.op ≠ .select cs b) (h : ∀ x ∈ o.op.operands, ρ' x = ren β (ρ x)) :
    execOp ρ' o = execOp (fun x => ren β (ρ x)) o := execOp_congr o hs h

theorem cells_at {A : Nat → Prop} {w0 : World} {β : Nat → Nat} {H : Hp} {w : World} (h : Rel A w0 β H w) {b : Nat} {c : Array Value} {T : TypeId} {fr : Nat × Nat} (hb : look H b = some (.cells c T fr)) (i : Nat) :
    w.cell? ⟨β b, i, none⟩ = (c[i]?).map (ren β) ∧ w.frozen? ⟨β b, i, none⟩ = false := by
  have hl := h.lies b _ hb
  have hwf := h.wf b _ hb
  simp only [wfO, Bool.and_eq_true, beq_iff_eq] at hwf
  obtain ⟨lo, hi⟩ := fr
  obtain ⟨_, rfl, rfl⟩ := hwf
  simp only [LiesO] at hl
  simp only [World.cell?, World.frozen?, hl, renA_get, Option.isSome_none, Bool.false_eq_true, if_false]
  simp

/-- What an operation does in the world in which the numbered blocks lie. -/
def EffRun (P : Program) (β : Nat → Nat) (w : World) (s : Sem Next) : Eff → Prop
  | .val v => s.run P w = .ok (.value (ren β v)) w
  | .sto b off vs => s.run P w = .ok .skip (w.setCells (β b) off (renL β vs))
  | .new c T => s.run P w = .ok (.value (.pointer (some ⟨w.heap.size, 0, none⟩))) (w.alloc (.cells (renA β c) T (0, 0)))

theorem ren_pointer {β : Nat → Nat} {v : Value} {b off : Nat} (h : v = .pointer (some ⟨b, off, none⟩)) : ren β v = .pointer (some ⟨β b, off, none⟩) := by subst h; rfl

theorem eff_run {P : Program} {A : Nat → Prop} {w0 : World} {β : Nat → Nat} {H : Hp} {w : World} {ρ ρ' : Operand → Value} {o : Oper} {e : Eff}
    (hR : Rel A w0 β H w) (h : veff P H ρ o = some e) (hρ : ∀ x ∈ o.op.operands, ρ' x = ren β (ρ x)) : EffRun P β w (execOp ρ' o) e := by
  have hsel : ∀ cs b, o.op ≠ .select cs b := by
    intro cs b hc
    unfold veff at h
    rw [hc] at h
    cases h
  rw [execOp_of (P := P) hsel hρ]
  obtain ⟨dst, op, type, pos, after, guard⟩ := o
  have gen : (match calm P (execOp ρ { dst := dst, op := op, type := type, pos := pos, after := after, guard := guard }) with
      | some (.value v) => if safeOp op || (op.operands.toList.all (fun x => wfV noB (ρ x)) && wfV noB v) then some (Eff.val v) else none
      | _ => none) = some e → EffRun P β w (execOp (fun x => ren β (ρ x)) { dst := dst, op := op, type := type, pos := pos, after := after, guard := guard }) e := by
    intro hg
    cases hc : calm P (execOp ρ { dst := dst, op := op, type := type, pos := pos, after := after, guard := guard }) with
    | none => rw [hc] at hg; cases hg
    | some n =>
      rw [hc] at hg
      cases n with
      | value v =>
        simp only at hg
        split at hg
        · rename_i hor
          simp only [Option.some.injEq] at hg
          subst hg
          rw [Bool.or_eq_true] at hor
          rcases hor with hor | hor
          · exact calm_run (eqv_safe hor hc (fun _ _ _ => trivial)) w
          · simp only [Bool.and_eq_true, List.all_eq_true] at hor
            have e1 := execOp_congr (ρ := fun x => ren β (ρ x)) (ρ' := ρ) { dst := dst, op := op, type := type, pos := pos, after := after, guard := guard } hsel (fun x hx => ren_plain β (hor.1 x (by simpa using hx)))
            rw [e1]
            have := calm_run hc w
            show _ = _
            rw [this, ren_plain β hor.2]
        · cases hg
      | _ => cases hg
  cases op with
  | load t x =>
    clear gen
    simp only [veff] at h
    split at h
    · rename_i b off hx
      split at h
      · rename_i c T fr hb
        split at h
        · rename_i hrow
          split at h
          · rename_i i hi
            split at h
            · rename_i hle
              simp only [Option.some.injEq] at h
              subst h
              unfold rowT at hrow
              cases hu : P.underlying t with
              | none => rw [hu] at hrow; cases hrow
              | some d =>
                rw [hu] at hrow
                have hd : d.isRow = true := by cases d <;> simp_all [TypeDesc.isRow]
                have hlen : (((c.toList.drop off).take i.size).map (ren β)).length = i.size := by
                  simp only [List.length_map, List.length_take, List.length_drop, Array.length_toList]; omega
                have hrun := run_loadAt_mid (P := P) w (β b) off t (((c.toList.drop off).take i.size).map (ren β)) d (fun j v hv => by
                  rw [(cells_at hR hb (off + j)).1]
                  have hj := (List.getElem?_eq_some_iff.1 hv).1
                  rw [hlen] at hj
                  rw [List.getElem?_map, List.getElem?_take_of_lt hj, List.getElem?_drop] at hv
                  rw [← hv, Array.getElem?_toList]) hu hd (by rw [hi, hlen]; rfl)
                simp only [EffRun, execOp, ren_pointer hx, Sem.run_bind, hrun, Result.andThen_ok, ren, renA_map]
                simp
            · cases h
          · cases h
        · rename_i hrow
          unfold rowT at hrow
          cases hu : P.underlying t with
          | none => rw [hu] at hrow; cases hrow
          | some d =>
            rw [hu] at hrow
            simp only [Option.map_eq_some_iff] at h
            obtain ⟨v, hv, rfl⟩ := h
            have hcell := (cells_at hR hb off).1
            rw [hv] at hcell
            have hagg : (isAgg t).run P w = .ok false w := by
              unfold isAgg
              rw [Sem.run_bind, run_underlying hu w]
              cases d <;> simp_all
            simp [EffRun, execOp, ren_pointer hx, Sem.run_bind, Instr.loadAt, Instr.sureAddr, loadVar, hagg, hcell]
        · cases h
      · cases h
    · cases h
  | store t x y =>
    clear gen
    simp only [veff] at h
    split at h
    · rename_i b off hx
      split at h
      · rename_i c T fr hb
        split at h
        · rename_i i hi
          split at h
          · rename_i hle
            obtain ⟨hsz, hle, h1⟩ := hle
            simp only [Option.some.injEq] at h
            subst h
            have hst := run_storeCells_cells (P := P) (β b) off (renL β (ρ y).cells.toList) 0 w (fun j hj => by
                rw [renL_map, List.length_map, Array.length_toList] at hj
                rw [Nat.add_zero, (cells_at hR hb (off + j)).1, Array.getElem?_eq_getElem (by omega)]
                rfl) (fun j hj => (cells_at hR hb _).2) (fun v hv => by
                rw [renL_map] at hv
                obtain ⟨u, hu, rfl⟩ := List.mem_map.1 hv
                rw [ren_oneCell]
                exact List.all_eq_true.1 h1 u hu)
            rw [Nat.add_zero] at hst
            have hcs : (ren β (ρ y)).cells.toList = renL β (ρ y).cells.toList := by
              rw [ren_cells, renL_map, renA_map]; simp
            have hsz2 : (ren β (ρ y)).cells.size = i.size := by rw [ren_cells, renA_map, Array.size_map]; exact hsz
            simp [EffRun, execOp, ren_pointer hx, Sem.run_bind, Instr.storeAt, Instr.sureAddr, storeVar, sizeOf, typeInfo, hi, hsz2, hcs, hst]
          · cases h
        · cases h
      · cases h
    · cases h
  | alloc t =>
    clear gen
    simp only [veff] at h
    split at h
    · rename_i i hi
      split at h
      · rename_i z hz
        split at h
        · rename_i hp
          simp only [Option.some.injEq] at h
          subst h
          simp [EffRun, execOp, Sem.run_bind, Instr.alloc, zeroValue, typeInfo, hi, hz, newVar, newRow, renA_plain β hp]
        · cases h
      · cases h
    · cases h
  | box t x =>
    clear gen
    simp only [veff, Option.some.injEq] at h
    subst h
    simp [EffRun, execOp, Sem.run_bind, Instr.box, newVar, newRow, ren_cells]
  | select cs b => exact absurd rfl (hsel cs b)
  | binOp bo t x y ty =>
    cases bo
    case shl =>
      simp only [veff] at h
      split at h
      · rename_i k a yk s hx hy
        simp only [Option.some.injEq] at h
        subst h
        have ex : ren β (ρ x) = .int k a := by rw [hx]; rfl
        have ey : ren β (ρ y) = .int yk (.ofNat s) := by rw [hy]; rfl
        have hg : (eqGuard .shl t x y (.int k a) (.int yk (.ofNat s))).run P w = .ok () w := rfl
        have hb : (binOp .shl t (.int k a) (.int yk (.ofNat s))).run P w = .ok (.int k (k.wrap (a * 2 ^ (min s k.bits)))) w := by
          show (Op.shift .shl k a yk (.ofNat s)).run P w = _
          unfold Op.shift
          rw [if_neg (show ¬ Int.ofNat s < 0 from Int.not_lt.2 (Int.natCast_nonneg s))]
          rfl
        simp only [EffRun, execOp, ex, ey, Sem.run_bind, hg, hb, Result.andThen_ok, ren]
        rfl
      · cases h
    case shr =>
      simp only [veff] at h
      split at h
      · rename_i k a yk s hx hy
        simp only [Option.some.injEq] at h
        subst h
        have ex : ren β (ρ x) = .int k a := by rw [hx]; rfl
        have ey : ren β (ρ y) = .int yk (.ofNat s) := by rw [hy]; rfl
        have hg : (eqGuard .shr t x y (.int k a) (.int yk (.ofNat s))).run P w = .ok () w := rfl
        have hb : (binOp .shr t (.int k a) (.int yk (.ofNat s))).run P w = .ok (.int k (a.fdiv (2 ^ (min s k.bits)))) w := by
          show (Op.shift .shr k a yk (.ofNat s)).run P w = _
          unfold Op.shift
          rw [if_neg (show ¬ Int.ofNat s < 0 from Int.not_lt.2 (Int.natCast_nonneg s))]
          rfl
        simp only [EffRun, execOp, ex, ey, Sem.run_bind, hg, hb, Result.andThen_ok, ren]
        rfl
      · cases h
    case eql =>
      simp only [veff] at h
      split at h
      · rename_i xs ys hx hy
        have ex : ren β (ρ x) = .agg (renA β xs) := by rw [hx]; rfl
        have ey : ren β (ρ y) = .agg (renA β ys) := by rw [hy]; rfl
        split at h
        case h_2 => cases h
        rename_i r hr
        simp only [Option.some.injEq] at h
        subst h
        obtain ⟨h1, h2⟩ := arrEq_eql (arrEq_ren β hr) w x y .eql
        simp [EffRun, execOp, ex, ey, Sem.run_bind, h1, run_eql_struct, h2, ren]
      · exact gen h
    case neq =>
      simp only [veff] at h
      split at h
      · rename_i xs ys hx hy
        have ex : ren β (ρ x) = .agg (renA β xs) := by rw [hx]; rfl
        have ey : ren β (ρ y) = .agg (renA β ys) := by rw [hy]; rfl
        split at h
        case h_2 => cases h
        rename_i r hr
        simp only [Option.some.injEq] at h
        subst h
        obtain ⟨h1, h2⟩ := arrEq_eql (arrEq_ren β hr) w x y .neq
        simp [EffRun, execOp, ex, ey, Sem.run_bind, h1, run_neq_struct, h2, ren]
      · exact gen h
    all_goals
      simp only [veff] at h
      split at h
      · cases h
      · exact gen h
  | call cl =>
    obtain ⟨callee, args, argTypes⟩ := cl
    have gen' : (match calm P (execOp ρ { dst := dst, op := .call { callee := callee, args := args, argTypes := argTypes }, type := type, pos := pos, after := after, guard := guard }) with
      | some (.value v) => if (Op.call { callee := callee, args := args, argTypes := argTypes }).operands.toList.all (fun x => wfV noB (ρ x)) && wfV noB v then some (Eff.val v) else none
      | _ => none) = some e → EffRun P β w (execOp (fun x => ren β (ρ x)) { dst := dst, op := .call { callee := callee, args := args, argTypes := argTypes }, type := type, pos := pos, after := after, guard := guard }) e := by
      intro hg
      refine gen ?_
      split at hg
      · rename_i v hv
        split at hg
        · rename_i hc
          rw [hc, Bool.or_true, if_pos rfl]
          exact hg
        · cases hg
      · cases hg
    simp only [veff, veffCall] at h
    split at h
    · rename_i x ty heq
      simp only [Call.mk.injEq] at heq
      obtain ⟨rfl, rfl, rfl⟩ := heq
      split at h
      · rename_i a l cp hx
        split at h
        · rename_i el hu
          simp only [Option.some.injEq] at h
          subst h
          have er : ∀ a' : Option Addr, ren β (.slice a l cp) = .slice (a.map (renP β)) l cp := fun _ => by cases a <;> rfl
          simp [EffRun, execOp, Sem.run_bind, resolve, invoke, builtin, Builtin.len_, hx, er none, run_underlying hu, ren]
          rfl
        · cases h
      · exact gen' h
    · exact gen' h
  | pick c a b =>
    clear gen
    simp only [veff] at h
    split at h
    · rename_i t hc
      have run : ∀ v, v = (if t = true then ρ a else ρ b) → (execOp (fun x => ren β (ρ x)) { dst := dst, op := .pick c a b, type := type, pos := pos, after := after, guard := guard }).run P w = .ok (.value (ren β v)) w := by
        intro v hv
        subst hv
        simp only [execOp, hc, ren, asBool, Sem.run_bind, Sem.run_pure, Result.andThen_ok]
        cases t <;> rfl
      split at h
      · rename_i x y ha hb
        simp only [Option.some.injEq] at h
        subst h
        exact run _ (by rw [ha, hb]; cases t <;> rfl)
      · simp only [Option.some.injEq] at h
        subst h
        exact run _ rfl
    · cases h
  | _ => exact gen h

end Go.Proofs.Ytpbhoamojocbpaa
