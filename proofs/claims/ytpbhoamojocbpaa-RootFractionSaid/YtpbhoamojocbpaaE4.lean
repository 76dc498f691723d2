/- A walk by computation: one operation. -/
import Derived.Test.YtpbhoamojocbpaaE3
import Derived.RangeFuncSeq
namespace Go.Proofs.Ytpbhoamojocbpaa
open Go Go.RowKit
set_option linter.unusedSimpArgs false
set_option linter.unusedVariables false

def AllP : List Prop → Prop
  | [] => True
  | p :: l => p ∧ AllP l

/-- How a call ends. -/
inductive Res where
  | ret (v : Value)
  | pan (ch : List PanicEntry)
/-- What a walk hands along: the next number of a block, what is foretold of tests, what is owed, how tests came out. -/
structure Ctl where
  n : Nat
  orc : List (Option Bool)
  obl : List Prop
  log : List Bool
  ans : List (Nat × Res) := []
  bls : List (Nat × Res × Hp) := []
/-- A test: by itself, or as it is foretold, which is then owed. -/
def vdec (b : Bool) (c : Ctl) : Bool × Ctl :=
  match c.orc with
  | [] => (b, { c with log := b :: c.log })
  | none :: r => (b, { c with orc := r, log := b :: c.log })
  | some d :: r => (d, { c with orc := r, obl := (b = d) :: c.obl, log := d :: c.log })
theorem vdec_mono {b : Bool} {c : Ctl} (h : AllP (vdec b c).2.obl) : AllP c.obl := by
  unfold vdec at h
  split at h
  · exact h
  · exact h
  · exact h.2
theorem vdec_fst {b : Bool} {c : Ctl} (h : AllP (vdec b c).2.obl) : (vdec b c).1 = b := by
  unfold vdec at h ⊢
  split at h
  · rfl
  · rfl
  · exact h.1.symm

/-- A call that waits for the end: a loop's mark, or a function. -/
inductive VDef where
  | mark (r : Nat)
  | fn (f : FuncId) (cap args : Array Value)
def renD (β : Nat → Nat) : VDef → Deferred
  | .mark r => { target := .collected (β r), args := #[] }
  | .fn f cap args => { target := .fn (.func f) (renA β cap), args := renA β args }
def wfD (p : Nat → Bool) : VDef → Bool
  | .mark r => p r
  | .fn _ cap args => wfA p cap && wfA p args
theorem renD_congr {β γ : Nat → Nat} {p : Nat → Bool} (h : ∀ i, p i = true → β i = γ i) {d : VDef} (hw : wfD p d = true) : renD β d = renD γ d := by
  cases d with
  | mark r => simp only [renD, h r hw]
  | fn f cap args => simp only [wfD, Bool.and_eq_true] at hw; simp only [renD, renA_congr h _ hw.1, renA_congr h _ hw.2]
theorem wfD_mono {p q : Nat → Bool} (h : ∀ i, p i = true → q i = true) {d : VDef} (hw : wfD p d = true) : wfD q d = true := by
  cases d with
  | mark r => exact h r hw
  | fn f cap args => simp only [wfD, Bool.and_eq_true] at hw ⊢; exact ⟨wfA_mono h _ hw.1, wfA_mono h _ hw.2⟩
def wfDs (p : Nat → Bool) (D : List VDef) : Bool := D.all (wfD p)
theorem wfDs_mono {p q : Nat → Bool} (h : ∀ i, p i = true → q i = true) {D : List VDef} (hw : wfDs p D = true) : wfDs q D = true := by
  unfold wfDs at *
  rw [List.all_eq_true] at *
  exact fun d hd => wfD_mono h (hw d hd)
theorem renDs_congr {β γ : Nat → Nat} {p : Nat → Bool} (h : ∀ i, p i = true → β i = γ i) {D : List VDef} (hw : wfDs p D = true) : D.map (renD β) = D.map (renD γ) := by
  unfold wfDs at hw
  rw [List.all_eq_true] at hw
  exact List.map_congr_left (fun d hd => renD_congr h (hw d hd))

def vev (t : List Value) : Operand → Value
  | .tmp i => t.getD i undef
  | .const v => v
  | .global _ => undef
  | .func f => .func (.func f) #[] #[]
def opdOK : Operand → Bool
  | .const v => wfV noB v
  | .global _ => false
  | _ => true

structure RelA (A : Nat → Prop) (w0 : World) (β : Nat → Nat) (D : List VDef) (t : List Value) (H : Hp) (a : Act) (w : World) : Prop where
  tm : a.tmps = (renL β t).toArray
  df : a.defers = D.map (renD β)
  wt : wfL (domB H) t = true
  wd : wfDs (domB H) D = true
  rel : Rel A w0 β H w

theorem RelA.eval {A : Nat → Prop} {w0 : World} {β : Nat → Nat} {D : List VDef} {t : List Value} {H : Hp} {a : Act} {w : World} (h : RelA A w0 β D t H a w) {x : Operand} (hx : opdOK x = true) : a.eval x = ren β (vev t x) := by
  cases x with
  | tmp i =>
    simp only [Act.eval, vev, h.tm, renL_map, List.getD_eq_getElem?_getD, Array.getD_eq_getD_getElem?, List.getElem?_toArray, List.getElem?_map]
    cases t[i]? <;> rfl
  | const v => exact (ren_plain β hx).symm
  | global g => cases hx
  | func f => rfl

def vput (t : List Value) (dst : Option Tmp) (v : Value) : List Value :=
  match dst with
  | some d => t.set d v
  | none => t
theorem RelA.put {A : Nat → Prop} {w0 : World} {β γ : Nat → Nat} {D : List VDef} {t : List Value} {H G : Hp} {a : Act} {w w' : World} (h : RelA A w0 β D t H a w) (hb : ∀ i, domB H i = true → γ i = β i) (hd : ∀ i, domB H i = true → domB G i = true)
    (hR : Rel A w0 γ G w') (dst : Option Tmp) {v : Value} (hv : wfV (domB G) v = true) : RelA A w0 γ D (vput t dst v) G (a.put dst (ren γ v)) w' := by
  have ht : renL γ t = renL β t := renL_congr (fun i hi => hb i hi) t h.wt
  have hw := wfL_mono hd t h.wt
  have hdf : D.map (renD γ) = D.map (renD β) := renDs_congr (fun i hi => hb i hi) h.wd
  cases dst with
  | none => exact ⟨by rw [show (vput t none v) = t from rfl, ht]; exact h.tm, by rw [hdf]; exact h.df, hw, wfDs_mono hd h.wd, hR⟩
  | some d =>
    refine ⟨?_, by rw [hdf]; exact h.df, ?_, wfDs_mono hd h.wd, hR⟩
    · show a.tmps.setIfInBounds d (ren γ v) = (renL γ (t.set d v)).toArray
      rw [h.tm, ← ht, renL_map, renL_map, List.map_set]
      simp
    · show wfL (domB G) (t.set d v) = true
      rw [wfL_all] at hw ⊢
      intro x hx
      rcases List.mem_or_eq_of_mem_set hx with hx | rfl
      · exact hw x hx
      · exact hv

/-- What an operation makes: a value, and blocks. -/
structure Mic where
  val : Value
  set : Hp
  pan : Option (List PanicEntry) := none
  dfr : Option VDef := none
/-- Blocks over others. -/
def merge (S H : Hp) : Hp := S ++ H.filter fun e => !domB S e.1
theorem look_append (i : Nat) (G : Hp) : ∀ S, look (S ++ G) i = match look S i with | some o => some o | none => look G i
  | [] => rfl
  | (k, x) :: r => by
    simp only [List.cons_append, look]
    by_cases h : k = i
    · rw [if_pos h, if_pos h]
    · rw [if_neg h, if_neg h, look_append i G r]
theorem look_filter (p : Nat → Bool) (i : Nat) : ∀ H, look (H.filter fun e => p e.1) i = if p i = true then look H i else none
  | [] => by simp [look]
  | (k, x) :: r => by
    rw [List.filter_cons]
    by_cases hk : p k = true
    · simp only [hk, if_true, look, look_filter p i r]
      by_cases h : k = i
      · subst h; simp [hk]
      · simp [h]
    · simp only [hk, if_false, Bool.false_eq_true, look, look_filter p i r]
      by_cases h : k = i
      · subst h; simp [hk]
      · simp [h]
theorem look_merge (S H : Hp) (i : Nat) : look (merge S H) i = match look S i with | some o => some o | none => look H i := by
  unfold merge
  rw [look_append, look_filter (fun k => !domB S k)]
  cases h : look S i with
  | some o => rfl
  | none => simp [domB, h]
theorem domB_merge {S H : Hp} {i : Nat} : domB (merge S H) i = (domB S i || domB H i) := by
  unfold domB
  rw [look_merge]
  cases look S i <;> simp

def Sub (G H : Hp) : Prop := ∀ i o, look G i = some o → look H i = some o

theorem veff_sub {P : Program} {G H : Hp} {ρ : Operand → Value} {o : Oper} {e : Eff} (hs : Sub G H) (h : veff P G ρ o = some e) : veff P H ρ o = some e := by
  obtain ⟨dst, op, type, pos, after, guard⟩ := o
  cases op with
  | load t x =>
    simp only [veff] at h ⊢
    split at h
    · rename_i b off hx
      split at h
      · rename_i c T fr hb
        rw [hs _ _ hb]
        exact h
      · cases h
    · cases h
  | store t x y =>
    simp only [veff] at h ⊢
    split at h
    · rename_i b off hx
      split at h
      · rename_i c T fr hb
        rw [hs _ _ hb]
        exact h
      · cases h
    · cases h
  | binOp bo t x y ty => cases bo <;> exact h
  | _ => exact h

/-- The block that an operation reads or writes. -/
def touch (H : Hp) (ρ : Operand → Value) (o : Oper) : Hp :=
  match o.op with
  | .load _ x | .store _ x _ =>
    match ρ x with
    | .pointer (some a) => match look H a.block with | some ob => [(a.block, ob)] | none => []
    | _ => []
  | _ => []
theorem touch_sub (H : Hp) (ρ : Operand → Value) (o : Oper) : Sub (touch H ρ o) H := by
  intro i ob h
  unfold touch at h
  split at h
  · split at h
    · split at h
      · rename_i a _ ob' hb
        simp only [look] at h
        split at h
        · rename_i e; simp only [Option.some.injEq] at h; subst h; rw [← e]; exact hb
        · cases h
      · cases h
    · cases h
  · split at h
    · split at h
      · rename_i a _ ob' hb
        simp only [look] at h
        split at h
        · rename_i e; simp only [Option.some.injEq] at h; subst h; rw [← e]; exact hb
        · cases h
      · cases h
    · cases h
  · cases h

def rng (β : Nat → Nat) (H : Hp) (k : Nat) : Prop := ∃ i, domB H i = true ∧ β i = k
def closedH (H : Hp) : Bool := H.all fun e => wfO (domB H) e.2
theorem closedH_spec {H : Hp} (h : closedH H = true) : ∀ i o, look H i = some o → wfO (domB H) o = true := by
  have key : ∀ (G : Hp) (p : Nat → Bool), (G.all fun e => wfO p e.2) = true → ∀ i o, look G i = some o → wfO p o = true := by
    intro G p
    induction G with
    | nil => intro _ i o h; cases h
    | cons e r ih =>
      obtain ⟨k, x⟩ := e
      intro hg i o ho
      rw [List.all_cons, Bool.and_eq_true] at hg
      simp only [look] at ho
      split at ho
      · simp only [Option.some.injEq] at ho; subst ho; exact hg.1
      · exact ih hg.2 i o ho
  exact key H _ h
theorem Rel.sub {A : Nat → Prop} {w0 : World} {β : Nat → Nat} {G H : Hp} {w : World} (h : Rel A w0 β H w) (hs : Sub G H) (hc : closedH G = true) : Rel (rng β G) w β G w := by
  have hd : ∀ i, domB G i = true → domB H i = true := fun i hi => by obtain ⟨o, ho⟩ := domB_iff.1 hi; exact domB_of (hs i o ho)
  exact ⟨fun i o ho => h.lies i o (hs i o ho), fun i j hi hj e => h.inj i j (hd i hi) (hd j hj) e, fun i hi => .inl ⟨i, hi, rfl⟩, closedH_spec hc, Kp.refl _ _⟩
/-- A part of the list. -/
theorem Rel.part {A : Nat → Prop} {w0 : World} {β : Nat → Nat} {G H : Hp} {w : World} (h : Rel A w0 β H w) (hs : Sub G H) (hc : closedH G = true) : Rel A w0 β G w := by
  have hd : ∀ i, domB G i = true → domB H i = true := fun i hi => by obtain ⟨o, ho⟩ := domB_iff.1 hi; exact domB_of (hs i o ho)
  exact ⟨fun i o ho => h.lies i o (hs i o ho), fun i j hi hj e => h.inj i j (hd i hi) (hd j hj) e, fun i hi => h.own i (hd i hi), closedH_spec hc, h.kp⟩

/-- Behind a call that had a part of the blocks. -/
theorem Rel.back {A : Nat → Prop} {w0 : World} {β β' : Nat → Nat} {G H H' : Hp} {w w' : World} (h : Rel A w0 β H w) (hs : Sub G H) (hk : Rel (rng β G) w β' H' w') (hx : ∀ i, domB G i = true → β' i = β i)
    (hd : ∀ i, domB G i = true → domB H' i = true) (hn : ∀ i, domB H' i = true → domB G i = true ∨ domB H i = false) :
    Rel A w0 (fun i => if domB H i = true then β i else β' i) (merge H' H) w' ∧ ∀ i, domB H' i = true → (if domB H i = true then β i else β' i) = β' i := by
  have hG : ∀ i, domB G i = true → domB H i = true := fun i hi => by obtain ⟨o, ho⟩ := domB_iff.1 hi; exact domB_of (hs i o ho)
  have hag : ∀ i, domB H' i = true → (if domB H i = true then β i else β' i) = β' i := fun i hi => by
    rcases hn i hi with h1 | h1
    · rw [if_pos (hG i h1), hx i h1]
    · rw [if_neg (by rw [h1]; decide)]
  have hold : ∀ i, domB H i = true → domB H' i = false → w'.heap[β i]? = w.heap[β i]? := fun i hi hi' => by
    refine hk.kp.block _ (h.lt hi) ?_
    rintro ⟨j, hj, e⟩
    have := h.inj j i (hG j hj) hi e
    subst this
    rw [hd j hj] at hi'
    cases hi'
  have hnew : ∀ i, domB H' i = true → domB H i = false → w.heap.size ≤ β' i := fun i hi hi' => by
    rcases hk.own i hi with ⟨j, hj, e⟩ | h1
    · have := hk.inj j i (hd j hj) hi (by rw [hx j hj]; exact e)
      subst this
      rw [hG j hj] at hi'
      cases hi'
    · exact h1
  refine ⟨⟨fun i o ho => ?_, fun i j hi hj e => ?_, fun i hi => ?_, fun i o ho => ?_, ?_⟩, hag⟩
  · rw [look_merge] at ho
    cases hl : look H' i with
    | some x =>
      rw [hl] at ho
      simp only [Option.some.injEq] at ho
      subst ho
      have hi := domB_of hl
      simp only [hag i hi]
      exact liesO_congr (fun j hj => (hag j hj).symm) (hk.wf i x hl) (hk.lies i x hl)
    | none =>
      rw [hl] at ho
      simp only at ho
      have hi := domB_of ho
      have hi' : domB H' i = false := by unfold domB; rw [hl]; rfl
      simp only [if_pos hi]
      rw [hold i hi hi']
      exact liesO_congr (fun j hj => (if_pos hj).symm) (h.wf i o ho) (h.lies i o ho)
  · rw [domB_merge, Bool.or_eq_true] at hi hj
    by_cases h1 : domB H i = true <;> by_cases h2 : domB H j = true
    · rw [if_pos h1, if_pos h2] at e; exact h.inj i j h1 h2 e
    · have hj' := hj.resolve_right h2
      rw [if_pos h1, if_neg h2] at e
      have := hnew j hj' (by simpa using h2)
      have := h.lt h1
      omega
    · have hi' := hi.resolve_right h1
      rw [if_pos h2, if_neg h1] at e
      have := hnew i hi' (by simpa using h1)
      have := h.lt h2
      omega
    · have hi' := hi.resolve_right h1
      have hj' := hj.resolve_right h2
      rw [if_neg h1, if_neg h2] at e
      exact hk.inj i j hi' hj' e
  · rw [domB_merge, Bool.or_eq_true] at hi
    by_cases h1 : domB H i = true
    · rw [if_pos h1]; exact h.own i h1
    · rw [if_neg h1]
      have := hnew i (hi.resolve_right h1) (by simpa using h1)
      exact .inr (Nat.le_trans h.kp.size this)
  · rw [look_merge] at ho
    cases hl : look H' i with
    | some x =>
      rw [hl] at ho
      simp only [Option.some.injEq] at ho
      subst ho
      exact wfO_mono (fun j hj => by rw [domB_merge, hj]; rfl) (hk.wf i x hl)
    | none =>
      rw [hl] at ho
      simp only at ho
      exact wfO_mono (fun j hj => by rw [domB_merge, hj, Bool.or_true]) (h.wf i o ho)
  · refine ⟨hk.kp.os.trans h.kp.os, hk.kp.tape.trans h.kp.tape, hk.kp.output.trans h.kp.output, Nat.le_trans h.kp.size hk.kp.size, fun k hk2 hA => ?_⟩
    rw [hk.kp.block k (Nat.lt_of_lt_of_le hk2 h.kp.size)]
    · exact h.kp.block k hk2 hA
    · rintro ⟨j, hj, e⟩
      rcases h.own j (hG j hj) with h1 | h1
      · rw [e] at h1; exact hA h1
      · omega

/-- .. in numbers. -/
def Res.out (β : Nat → Nat) : Res → Ending
  | .ret v => .returned (ren β v)
  | .pan ch => .panicked ch
/-- A call, wherever its blocks lie. -/
def CallsV (P : Program) (fn : Fn) (args : Array Value) (H : Hp) (r : Res) (H' : Hp) : Prop :=
  ∀ β w, Rel (rng β H) w β H w →
    match fn with
    | .func f => Calls P f (renA β args) w fun e w' => ∃ β', (∀ i, domB H i = true → β' i = β i) ∧ e = r.out β' ∧ Rel (rng β H) w β' H' w'
    | .yield l => ∀ n, YieldAt Fence.wide n P (β l) (renA β args) w fun e w' => ∃ β', (∀ i, domB H i = true → β' i = β i) ∧ e = r.out β' ∧ Rel (rng β H) w β' H' w'
    | _ => False

end Go.Proofs.Ytpbhoamojocbpaa
