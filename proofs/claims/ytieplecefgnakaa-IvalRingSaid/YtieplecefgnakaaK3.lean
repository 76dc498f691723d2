/- Texts of the seat, joined. -/
import Derived.Test.YtieplecefgnakaaK2
import Derived.LoopNIn
/- A walk by computation: calls whose answers are foretold. -/
namespace Go.Proofs.Ytieplecefgnakaa
open Go Go.RowKit
set_option linter.unusedSimpArgs false
set_option linter.unusedVariables false

/-- A call of plain values, wherever. -/
def PureX (P : Program) (f : FuncId) (args : Array Value) (r : Res) : Prop := ∀ w, Calls P f args w fun e w' => e = r.out idN ∧ Below w.heap.size w w'

theorem Rel.below {A : Nat → Prop} {w0 : World} {β : Num} {H : Hp} {w w' : World} (h : Rel A w0 β H w) (hb : Below w.heap.size w w') : Rel A w0 β H w' :=
  ⟨fun i o ho => by
    by_cases hl : isLive o = true
    · rw [hb.block _ (h.lt (liveB_of ho hl))]; exact h.lies i o ho
    · cases o with
      | coro p => exact trivial
      | _ => exact absurd rfl hl, h.inj, h.own, h.wf, h.kp.trans (Kp.of_below hb)⟩

/-- The next call's answer as it is foretold; that is then owed. -/
def smA (P : Program) : CallF := fun fn args H c =>
  match fn, c.ans with
  | .func f, (g, r) :: rest => if Nat.beq f g && (wfA noB args && resOK noB r) then some (r, H, { c with ans := rest, obl := PureX P f args r :: c.obl }) else none
  | _, _ => none
theorem smA_ok (P : Program) : CallOK P (smA P) := by
  intro fn args H c r H' c' h
  unfold smA at h
  split at h
  case h_2 => cases h
  rename_i f g r0 rest hfn
  split at h
  case isFalse => cases h
  rename_i hc
  simp only [Option.some.injEq, Prod.mk.injEq] at h
  obtain ⟨rfl, rfl, rfl⟩ := h
  simp only [Bool.and_eq_true] at hc
  refine ⟨fun z => z.2, fun z _ _ β w hR => ?_⟩
  have hp := z.1 w
  have ha : renA β args = args := renA_plain β hc.2.1
  show Calls P f (renA β args) w _
  rw [ha]
  refine hp.mono ?_
  rintro e w' ⟨rfl, hb⟩
  refine ⟨β, fun _ _ => rfl, ?_, hR.below hb⟩
  cases r0 with
  | ret v =>
    simp only [Res.out]
    rw [ren_plain _ hc.2.2, ren_plain _ hc.2.2]
  | pan ch => rfl

def ctl1 (orc : List (Option Bool)) (ans : List (Nat × Res)) : Ctl := { n := 0, orc := orc, obl := [], log := [], ans := ans }
def Owed : List Prop → Prop
  | [] => True
  | p :: l => p ∧ Owed l
theorem allP_append : ∀ (l m : List Prop), AllP (l ++ m) ↔ AllP l ∧ AllP m
  | [], m => by simp [AllP]
  | p :: l, m => by simp only [List.cons_append, AllP, allP_append l m, and_assoc]
theorem allP_reverse : ∀ (l : List Prop), AllP l.reverse ↔ AllP l
  | [] => Iff.rfl
  | p :: l => by rw [List.reverse_cons, allP_append, allP_reverse l]; simp only [AllP, and_true]; exact and_comm

def runA (P : Program) (f : Nat) (args : Array Value) (orc : List (Option Bool)) (ans : List (Nat × Res)) : Option (Res × List Prop) :=
  (vfun P (smA P) 300 20 (.func f) args [] (ctl1 orc ans)).map fun x => (x.1, x.2.2.obl.reverse)
theorem runA_pure {P : Program} (hmix : P.follows .mixedOrders = true) {f : Nat} {args : Array Value} {orc : List (Option Bool)} {ans : List (Nat × Res)} {r : Res} {obl : List Prop}
    (h : runA P f args orc ans = some (r, obl)) (ho : AllP obl) (ha : wfA noB args = true) (hr : resOK noB r = true) : PureX P f args r := by
  intro w
  unfold runA at h
  rw [Option.map_eq_some_iff] at h
  obtain ⟨⟨r', H', c'⟩, h1, h2⟩ := h
  simp only [Prod.mk.injEq] at h2
  obtain ⟨rfl, rfl⟩ := h2
  have hd : domB [] = noB := rfl
  have := (vfun_ok (smA_ok P) hmix 300 20 _ _ _ _ _ _ _ h1).2 ((allP_reverse _).1 ho) rfl (by rw [hd]; exact ha) idN w (Rel.nil _ _ _)
  have ha2 : renA idN args = args := renA_plain _ ha
  simp only [ha2] at this
  refine this.mono ?_
  rintro e w' ⟨β', _, rfl, hR⟩
  refine ⟨?_, hR.kp.below (Nat.le_refl _) ?_⟩
  · cases r' with
    | ret v =>
      simp only [Res.out]
      rw [ren_plain β' hr, ren_plain _ hr]
    | pan ch => rfl
  · rintro k ⟨i, hi, _⟩
    cases hi

end Go.Proofs.Ytieplecefgnakaa

/- A walk by computation: calls that are handed blocks, whose answers are foretold. -/
namespace Go.Proofs.Ytieplecefgnakaa
open Go Go.RowKit
set_option linter.unusedSimpArgs false
set_option linter.unusedVariables false

/-- The next call's answer as it is foretold, with the blocks behind it. -/
def smB (P : Program) : CallF := fun fn args H c =>
  match smA P fn args H c with
  | some r => some r
  | none =>
    match fn, c.bls with
    | .func f, (g, r, H') :: rest => if Nat.beq f g then some (r, H', { c with bls := rest, obl := CallsV P (.func f) args H r H' :: c.obl }) else none
    | _, _ => none
theorem smB_ok (P : Program) : CallOK P (smB P) := by
  intro fn args H c r H' c' h
  unfold smB at h
  split at h
  · rename_i r' hr
    cases h
    exact smA_ok P _ _ _ _ _ _ _ hr
  · split at h
    case h_2 => cases h
    rename_i f g r0 G rest hfn
    split at h
    case isFalse => cases h
    simp only [Option.some.injEq, Prod.mk.injEq] at h
    obtain ⟨rfl, rfl, rfl⟩ := h
    exact ⟨fun z => z.2, fun z _ _ => z.1⟩

def ctl2 (n : Nat) (orc : List (Option Bool)) (ans : List (Nat × Res)) (bls : List (Nat × Res × Hp)) : Ctl := { n := n, orc := orc, obl := [], log := [], ans := ans, bls := bls }
/-- A function that is handed blocks: what it hands back, how they then lie, what is owed. -/
def runB (P : Program) (f : Nat) (args : Array Value) (H : Hp) (orc : List (Option Bool)) (ans : List (Nat × Res)) (bls : List (Nat × Res × Hp)) : Option (Res × Hp × List Prop) :=
  (vfun P (smB P) 300 20 (.func f) args H (ctl2 1000 orc ans bls)).map fun x => (x.1, x.2.1.filter (fun e => domB H e.1), x.2.2.obl.reverse)

theorem runB_calls {P : Program} (hmix : P.follows .mixedOrders = true) {f : Nat} {args : Array Value} {H : Hp} {orc : List (Option Bool)} {ans : List (Nat × Res)} {bls : List (Nat × Res × Hp)} {r : Res} {H' : Hp} {obl : List Prop}
    (h : runB P f args H orc ans bls = some (r, H', obl)) (ho : AllP obl) (ha : wfA (domB H) args = true) (hc : closedH H' = true) (hr : resOK noB r = true) : CallsV P (.func f) args H r H' := by
  unfold runB at h
  rw [Option.map_eq_some_iff] at h
  obtain ⟨⟨r', H1, c'⟩, h1, h2⟩ := h
  simp only [Prod.mk.injEq] at h2
  obtain ⟨rfl, rfl, rfl⟩ := h2
  have key := (vfun_ok (smB_ok P) hmix 300 20 _ _ _ _ _ _ _ h1).2 ((allP_reverse _).1 ho) rfl ha
  intro β w hR
  refine (key β w hR).mono ?_
  rintro e w' ⟨β', hb, rfl, hR'⟩
  refine ⟨β', hb, rfl, hR'.part (fun i o hi => ?_) hc⟩
  rw [look_filter (fun k => domB H k)] at hi
  split at hi
  · exact hi
  · cases hi

/-- Blocks told otherwise. -/
theorem CallsV.to {P : Program} {f : Nat} {args : Array Value} {H H' G : Hp} {r s : Res} (h : CallsV P (.func f) args H r H') (hr : r = s) (hH : H' = G) : CallsV P (.func f) args H s G := by
  subst hr; subst hH; exact h

theorem runB_pure {P : Program} (hmix : P.follows .mixedOrders = true) {f : Nat} {args : Array Value} {orc : List (Option Bool)} {ans : List (Nat × Res)} {bls : List (Nat × Res × Hp)} {r : Res} {obl : List Prop}
    (h : runB P f args [] orc ans bls = some (r, [], obl)) (ho : AllP obl) (ha : wfA noB args = true) (hr : resOK noB r = true) : PureX P f args r := by
  intro w
  have := runB_calls hmix h ho ha rfl hr idN w (Rel.nil _ _ _)
  have ha2 : renA idN args = args := renA_plain _ ha
  simp only [ha2] at this
  refine this.mono ?_
  rintro e w' ⟨β', _, rfl, hR⟩
  refine ⟨?_, hR.kp.below (Nat.le_refl _) ?_⟩
  · cases r with
    | ret v =>
      simp only [Res.out]
      rw [ren_plain β' hr, ren_plain _ hr]
    | pan ch => rfl
  · rintro k ⟨i, hi, _⟩
    cases hi

end Go.Proofs.Ytieplecefgnakaa

/- A walk by computation: a panic out of a region that draws its order, where new blocks may have been made ahead of it. -/
namespace Go.Proofs.Ytieplecefgnakaa
open Go Go.RowKit
set_option linter.unusedSimpArgs false
set_option linter.unusedVariables false

section
variable {P : Program} {ops : Array Oper}

/-- A new block that hangs on nothing. -/
def vext1 (P : Program) (ops : Array Oper) (H : Hp) (k n : Nat) : Option Stp :=
  match ops[k]? with
  | some o =>
    match o.guard, o.op with
    | none, .alloc _ =>
      match veffM P H [] o { n := n, orc := [], obl := [], log := [] } with
      | some (m, [], _) => some ⟨k, o, m, []⟩
      | _ => none
    | _, _ => none
  | none => none
/-- What stands behind the panic in the text and may come ahead of it. -/
def vexts (P : Program) (ops : Array Oper) (H : Hp) (p : Nat) : List Nat → Nat → Option (List Stp)
  | [], _ => some []
  | k :: r, n =>
    if beforeB ops 8 p k then vexts P ops H p r n
    else
      match vext1 P ops H k n with
      | some e =>
        match vexts P ops H p r (n + 1) with
        | some l => some (e :: l)
        | none => none
      | none => none
theorem vext1_spec {H : Hp} {k n : Nat} {e : Stp} (h : vext1 P ops H k n = some e) : e.i = k ∧ ops[k]? = some e.o ∧ e.r = [] ∧ ∀ t, MicDoes P ops e.o t [] e.m := by
  unfold vext1 at h
  split at h
  case h_2 => cases h
  rename_i o ho
  split at h
  case h_2 => cases h
  rename_i T hg hop
  split at h
  case h_2 => cases h
  rename_i m c' hm
  simp only [Option.some.injEq] at h
  subst h
  have hall : o.op.operands.toList.all opdOK = true := by rw [hop]; rfl
  obtain ⟨-, -, -, hd⟩ := veffM_does (ops := ops) hall hm
  have hl : o.looksAt ops = [] := by
    unfold Oper.looksAt
    rw [hop, hg]
    rfl
  have hw : Wants ops o [] := fun a t' β _ _ => by unfold Region.wanted; rw [hg]
  refine ⟨rfl, ho, rfl, fun t => ?_⟩
  intro ro n Q K A w0 β D t' H' a w i hi hR ht
  exact hd hw ro n Q K A w0 β D t' H' a w i hi hR (fun x hx => by rw [hl] at hx; cases hx)
theorem vexts_spec {H : Hp} {p : Nat} : ∀ (is : List Nat) (n : Nat) (ex : List Stp), is.Pairwise (· < ·) → vexts P ops H p is n = some ex →
    (∀ e ∈ ex, e.i ∈ is ∧ ops[e.i]? = some e.o ∧ e.r = [] ∧ ∀ t, MicDoes P ops e.o t [] e.m) ∧ (∀ k ∈ is, beforeB ops 8 p k = true ∨ ∃ e ∈ ex, e.i = k) ∧ ex.Pairwise (fun a b => a.i < b.i) := by
  intro is
  induction is with
  | nil =>
    intro n ex _ h
    simp only [vexts, Option.some.injEq] at h
    subst h
    exact ⟨fun _ h => (by cases h), fun _ h => (by cases h), List.Pairwise.nil⟩
  | cons k r ih =>
    intro n ex hp h
    have hp2 := List.pairwise_cons.1 hp
    simp only [vexts] at h
    split at h
    · rename_i hb
      obtain ⟨h1, h2, h3⟩ := ih _ _ hp2.2 h
      refine ⟨fun e he => ?_, fun j hj => ?_, h3⟩
      · obtain ⟨a, b⟩ := h1 e he
        exact ⟨List.mem_cons_of_mem _ a, b⟩
      · rcases List.mem_cons.1 hj with hj1 | hj1
        · rw [hj1]; exact .inl hb
        · exact h2 j hj1
    · split at h
      case h_2 => cases h
      rename_i e he
      split at h
      case h_2 => cases h
      rename_i l hl
      simp only [Option.some.injEq] at h
      subst h
      obtain ⟨h1, h2, h3⟩ := ih _ _ hp2.2 hl
      obtain ⟨e1, e2, e3, e4⟩ := vext1_spec he
      refine ⟨fun x hx => ?_, fun j hj => ?_, List.pairwise_cons.2 ⟨fun x hx => ?_, h3⟩⟩
      · rcases List.mem_cons.1 hx with hx1 | hx1
        · rw [hx1]; exact ⟨by rw [e1]; exact List.mem_cons_self, by rw [e1]; exact e2, e3, e4⟩
        · obtain ⟨a, b⟩ := h1 x hx1
          exact ⟨List.mem_cons_of_mem _ a, b⟩
      · rcases List.mem_cons.1 hj with hj1 | hj1
        · exact .inr ⟨e, List.mem_cons_self, by rw [e1, hj1]⟩
        · rcases h2 j hj1 with h | ⟨x, hx, hx2⟩
          · exact .inl h
          · exact .inr ⟨x, List.mem_cons_of_mem _ hx, hx2⟩
      · rw [e1]
        exact hp2.1 x.i (h1 x hx).1

def drawPOK (ops : Array Oper) (H H' : Hp) (l ex : List Stp) (p : Nat) : Bool :=
  drawOK ops H (l ++ ex) && (closedH H' && ((l.all fun e => e.i == p || e.m.set.isEmpty) && ((ex.all fun e => e.m.pan.isNone && (keys e.m.set).all fun k => !domB H' k && !domB (foldH (l ++ ex) (fun j => decide (j < e.i)) H) k) &&
    (List.range ops.size).all fun k => match ops[k]? with | some o => o.after.toList.all fun x => !Region.binds .any x || decide (x.on < k) | none => true)))
def vdrawP (P : Program) (call : CallF) (ops : Array Oper) (t : List Value) (H : Hp) (c : Ctl) : Option (List PanicEntry × Hp × Ctl) :=
  match vsteps P call ops (List.range ops.size) t [] H c with
  | some (l, .pan ch _ _ H' c') =>
    match l.getLast? with
    | some p =>
      match vexts P ops H p.i (List.range' (p.i + 1) (ops.size - (p.i + 1))) c'.n with
      | some ex => if drawPOK ops H H' l ex p.i then some (ch, H', c') else none
      | none => none
    | none => none
  | _ => none

theorem vdrawP_spec {call : CallF} (hcall : CallOK P call) {t : List Value} {H : Hp} {c : Ctl} {ch : List PanicEntry} {H' : Hp} {c' : Ctl} (h : vdrawP P call ops t H c = some (ch, H', c')) :
    (AllP c'.obl → AllP c.obl) ∧ (∀ i, domB H i = true → domB H' i = true) ∧ (AllP c'.obl → ∀ (ro : Option Nat) (n : Nat) (Q : Exit → Act → World → Prop) (A : Nat → Prop) (w0 : World) (β : Num) (a : Act) (w : World), RelA A w0 β [] t H a w →
      (∀ β' a' w', (∀ i, domB H i = true → β' i = β i) → a'.defers = [] → Rel A w0 β' H' w' → Q (.panic ch) a' w') → wpAnyIn (Fw ro) n P .any ops Q ops.size (Array.replicate ops.size false) a w) := by
  unfold vdrawP at h
  split at h
  case h_2 => cases h
  rename_i l ch1 t1 D1 H1 c1 hs
  split at h
  case h_2 => cases h
  rename_i p0 hlast
  split at h
  case h_2 => cases h
  rename_i ex hex
  split at h
  case isFalse => cases h
  rename_i hpk
  simp only [Option.some.injEq, Prod.mk.injEq] at h
  obtain ⟨rfl, rfl, rfl⟩ := h
  obtain ⟨hm1, ⟨rest, hidx⟩, hDD, ⟨l0, p, hl, hpp, hpn⟩, hH', hst⟩ := vsteps_specP hcall (List.range ops.size) t [] H c l ch1 t1 D1 H1 c1 List.pairwise_lt_range hs
  have hp0 : p0 = p := by
    rw [hl, List.getLast?_append] at hlast
    simpa using hlast.symm
  subst hp0
  refine ⟨hm1, fun i hi => by rw [hH']; exact foldH_dom i _ l H hi, fun hobl ro n Q A w0 β a w hR hQ => ?_⟩
  have hsort1 : l.Pairwise (fun a b => a.i < b.i) := by
    have := List.pairwise_lt_range (n := ops.size)
    rw [hidx] at this
    exact List.pairwise_map.1 (List.pairwise_append.1 this).1
  obtain ⟨x1, x2, x3⟩ := vexts_spec (P := P) _ _ _ List.pairwise_lt_range' hex
  have hpl : p0 ∈ l := by rw [hl]; simp
  have hplast : ∀ e ∈ l, e.i ≤ p0.i := fun e he => by
    rw [hl] at he hsort1
    rcases List.mem_append.1 he with he | he
    · exact Nat.le_of_lt ((List.pairwise_append.1 hsort1).2.2 e he p0 (by simp))
    · rw [List.mem_singleton] at he; rw [he]; exact Nat.le_refl _
  have hexgt : ∀ e ∈ ex, p0.i < e.i := fun e he => by
    have := (x1 e he).1
    rw [List.mem_range'_1] at this
    omega
  obtain ⟨l2, hl2⟩ : ∃ l2, l ++ ex = l2 := ⟨_, rfl⟩
  have hsort : l2.Pairwise (fun a b => a.i < b.i) := by
    rw [← hl2]
    exact List.pairwise_append.2 ⟨hsort1, x3, fun a ha b hb => Nat.lt_of_le_of_lt (hplast a ha) (hexgt b hb)⟩
  unfold drawPOK at hpk
  rw [hl2] at hpk
  simp only [Bool.and_eq_true] at hpk
  obtain ⟨hok, hclosed, hset0, hex0, hlow0⟩ := hpk
  have hok2 := hok
  unfold drawOK at hok2
  simp only [Bool.and_eq_true] at hok2
  have hnod : ∀ e ∈ l2, e.m.dfr.isSome = false := fun e he => by
    have := List.all_eq_true.1 hok2.1.1.1 e he
    cases hx : e.m.dfr with
    | none => rfl
    | some d => rw [hx] at this; cases this
  have hset : ∀ e ∈ l, e.i ≠ p0.i → e.m.set = [] := fun e he hne => by
    have := List.all_eq_true.1 hset0 e he
    rw [beq_eq_false_iff_ne.2 hne, Bool.false_or] at this
    exact List.isEmpty_iff.1 this
  have hexk : ∀ e ∈ ex, e.m.pan = none ∧ ∀ k, domB e.m.set k = true → domB H1 k = false ∧ domB (foldH l2 (fun j => decide (j < e.i)) H) k = false := fun e he => by
    have := List.all_eq_true.1 hex0 e he
    rw [Bool.and_eq_true] at this
    refine ⟨by simpa using this.1, fun k hk => ?_⟩
    have h2 := List.all_eq_true.1 this.2 k (keys_dom hk)
    simpa using h2
  have hlow : ∀ (k : Nat) (o : Oper), ops[k]? = some o → ∀ x ∈ o.after, Region.binds .any x = true → x.on < k := fun k o ho x hx hb => by
    have := List.all_eq_true.1 hlow0 k (List.mem_range.2 (Array.getElem?_eq_some_iff.1 ho).1)
    rw [ho] at this
    have h1 := List.all_eq_true.1 this x (by simpa using hx)
    rw [hb] at h1
    simpa using h1
  have hin : ∀ e, e ∈ l2 ↔ e ∈ l ∨ e ∈ ex := fun e => by rw [← hl2, List.mem_append]
  have hlen : ∀ i, i < ops.size → beforeB ops 8 p0.i i = false → ∃ e ∈ l2, e.i = i := fun i hi hnb => by
    by_cases hle : i ≤ p0.i
    · have hm : i ∈ List.range ops.size := List.mem_range.2 hi
      have hw := List.pairwise_lt_range (n := ops.size)
      rw [hidx] at hm hw
      rcases List.mem_append.1 hm with hm | hm
      · obtain ⟨e, he, rfl⟩ := List.mem_map.1 hm
        exact ⟨e, (hin e).2 (.inl he), rfl⟩
      · have := (List.pairwise_append.1 hw).2.2 p0.i (List.mem_map_of_mem hpl) i hm
        omega
    · rcases x2 i (by rw [List.mem_range'_1]; omega) with h | ⟨e, he, h⟩
      · rw [hnb] at h; cases h
      · exact ⟨e, (hin e).2 (.inr he), h⟩
  have hpan : ∀ e ∈ l2, e.i ≠ p0.i → e.m.pan = none := fun e he hne => by
    rcases (hin e).1 he with he | he
    · rw [hl] at he
      rcases List.mem_append.1 he with he | he
      · exact hpn e he
      · rw [List.mem_singleton] at he; rw [he] at hne; exact absurd rfl hne
    · exact (hexk e he).1
  have hinj : ∀ e ∈ l2, ∀ s ∈ l2, e.i = s.i → e = s := by
    have key : ∀ (l : List Stp), l.Pairwise (fun a b => a.i < b.i) → ∀ e ∈ l, ∀ s ∈ l, e.i = s.i → e = s := by
      intro l
      induction l with
      | nil => intro _ e he; cases he
      | cons x r ih =>
        intro hp e he s hs heq
        have hp2 := List.pairwise_cons.1 hp
        rcases List.mem_cons.1 he with he1 | he1 <;> rcases List.mem_cons.1 hs with hs1 | hs1
        · rw [he1, hs1]
        · have := hp2.1 s hs1; rw [he1] at heq; omega
        · have := hp2.1 e he1; rw [hs1] at heq; omega
        · exact ih hp2.2 e he1 s hs1 heq
    exact key l2 hsort
  have hp2 : p0 ∈ l2 := (hin p0).2 (.inl hpl)
  have cutT : ∀ e ∈ l, ∀ t, foldT l2 (fun k => decide (k < e.i)) t = foldT l (fun k => decide (k < e.i)) t := fun e he t => by
    have key : ∀ (l : List Stp) (t : List Value), foldT (l ++ ex) (fun k => decide (k < e.i)) t = foldT l (fun k => decide (k < e.i)) t := by
      intro l
      induction l with
      | nil =>
        intro t
        have z : ∀ (ex : List Stp) (t : List Value), (∀ x ∈ ex, p0.i < x.i) → foldT ex (fun k => decide (k < e.i)) t = t := by
          intro ex
          induction ex with
          | nil => intro t _; rfl
          | cons x r ih =>
            intro t hx
            have := hx x List.mem_cons_self
            have := hplast e he
            rw [foldT, if_neg (by simp; omega)]
            exact ih _ (fun y hy => hx y (List.mem_cons_of_mem _ hy))
        exact z ex t hexgt
      | cons x r ih => intro t; rw [List.cons_append, foldT, foldT]; exact ih _
    rw [← hl2]; exact key l t
  have cutH : ∀ e ∈ l, ∀ t, foldH l2 (fun k => decide (k < e.i)) t = foldH l (fun k => decide (k < e.i)) t := fun e he t => by
    have key : ∀ (l : List Stp) (t : Hp), foldH (l ++ ex) (fun k => decide (k < e.i)) t = foldH l (fun k => decide (k < e.i)) t := by
      intro l
      induction l with
      | nil =>
        intro t
        have z : ∀ (ex : List Stp) (t : Hp), (∀ x ∈ ex, p0.i < x.i) → foldH ex (fun k => decide (k < e.i)) t = t := by
          intro ex
          induction ex with
          | nil => intro t _; rfl
          | cons x r ih =>
            intro t hx
            have := hx x List.mem_cons_self
            have := hplast e he
            rw [foldH, if_neg (by simp; omega)]
            exact ih _ (fun y hy => hx y (List.mem_cons_of_mem _ hy))
        exact z ex t hexgt
      | cons x r ih => intro t; rw [List.cons_append, foldH, foldH]; exact ih _
    rw [← hl2]; exact key l t
  have hst2 : ∀ e ∈ l2, ops[e.i]? = some e.o ∧ MicDoes P ops e.o (foldT l2 (fun k => decide (k < e.i)) t) e.r e.m ∧ Sub e.r (foldH l2 (fun k => decide (k < e.i)) H) ∧
      (∀ k, domB e.m.set k = true → domB e.r k = true ∨ domB (foldH l2 (fun k => decide (k < e.i)) H) k = false) := fun e he => by
    rcases (hin e).1 he with he | he
    · obtain ⟨a1, a2, a3, a4⟩ := hst e he
      rw [cutT e he, cutH e he]
      exact ⟨a1, a2 hobl, a3, a4⟩
    · obtain ⟨-, a1, a2, a3⟩ := x1 e he
      refine ⟨a1, by rw [a2]; exact a3 _, fun i o hi => (by rw [a2] at hi; cases hi), fun k hk => .inr ((hexk e he).2 k hk).2⟩
  have hops : ∀ e ∈ l2, ops[e.i]? = some e.o := fun e he => (hst2 e he).1
  refine wpAny_inv (fun L a w => L p0.i = false ∧ (∀ e ∈ l2, L e.i = true → e.i ≠ p0.i) ∧ ∃ β', (∀ i, domB H i = true → β' i = β i) ∧ RelA A w0 β' [] (foldT l2 L t) (foldH l2 L H) a w) ?_ (fun _ _ _ _ _ h => h) (fun k o ho x hx hb => hlow k o ho x hx hb) ?_ ops.size _ (fun _ => false) a w (by simp) (fun i => by
      by_cases hi : i < ops.size <;> simp [hi]) (fun _ _ h => (by cases h)) ?_ (Nat.le_trans (List.length_filter_le _ _) (by simp))
  · rintro L a w i o hD ⟨hLp, hLn, β', hext, hRL⟩ hLi ho hall
    have hisz := (Array.getElem?_eq_some_iff.1 ho).1
    have hnb : beforeB ops 8 p0.i i = false := by
      cases hb : beforeB ops 8 p0.i i with
      | false => rfl
      | true =>
        have := beforeB_down hD 8 p0.i i o ho hall hb
        rw [hLp] at this
        cases this
    obtain ⟨e, he, rfl⟩ := hlen i hisz hnb
    obtain ⟨ho', hdo, hsub, hfr⟩ := hst2 e he
    rw [ho] at ho'
    cases ho'
    have hodds : ∀ s ∈ l2, confl ops e s = true → L s.i = decide (s.i < e.i) := fun s hs hc => odds hok hops hD he hs hLi hall hc
    have hlook : ∀ k, k ∈ keys e.r ++ keys e.m.set → look (foldH l2 L H) k = look (foldH l2 (fun k => decide (k < e.i)) H) k := fun k hk =>
      foldH_look k _ _ l2 H H rfl (fun s hs hne => by
        cases hx : domB s.m.set k with
        | false => rfl
        | true =>
          refine absurd (hodds s hs ?_) hne
          unfold confl
          rw [hits_of (keys_dom hx) hk, Bool.or_true])
    refine hdo ro n Q _ A w0 β' [] _ _ a w e.i ho hRL (fun x hx => ?_) (fun k ob hk => ?_) (fun k hk => ?_) ?_ (fun hd => (by rw [hnod e he] at hd; cases hd)) (fun hpnone β'' a' w' hb hR' => ?_) (fun ch' hch β'' a' w' hb hR' => ?_)
    · refine foldT_get x _ _ l2 t t rfl rfl (fun s hs hne hd => hne (hodds s hs ?_))
      unfold confl
      have : (e.o.looksAt ops).contains x = true := by simpa using hx
      simp [hd, hx]
    · rw [hlook k (List.mem_append_left _ (keys_dom (domB_of hk)))]
      exact hsub k ob hk
    · rcases hfr k hk with h1 | h1
      · exact .inl h1
      · right
        unfold domB at h1 ⊢
        rw [hlook k (List.mem_append_right _ (keys_dom hk))]
        exact h1
    · have h3 := List.all_eq_true.1 hok2.2 e he
      refine wfV_mono (fun k hk => ?_) _ h3
      rw [domB_merge, Bool.or_eq_true]
      simp only [Bool.or_eq_true, List.any_eq_true, Bool.and_eq_true] at hk
      rcases hk with (hk | hk) | ⟨s, hs, hk, hbf⟩
      · exact .inl hk
      · exact .inr (foldH_dom k L l2 H hk)
      · exact .inr (foldH_dom_of k L s (beforeB_down hD 8 s.i e.i e.o ho hall hbf) hk l2 H hs)
    · have hnep : e.i ≠ p0.i := fun heq => by
        have := hinj e he p0 hp2 heq
        subst this
        rw [hpp] at hpnone
        cases hpnone
      refine ⟨?_, ?_, β'', fun i hi => by rw [hb i (foldH_dom i L l2 H hi), hext i hi], ?_⟩
      · simp only [addL]; rw [beq_eq_false_iff_ne.2 (fun h => hnep h.symm), hLp]; rfl
      · intro s hs hL heq
        simp only [addL, Bool.or_eq_true, beq_iff_eq] at hL
        rcases hL with hL | hL
        · exact hnep (by rw [← hL, heq])
        · rw [heq, hLp] at hL; cases hL
      have hne : l2.Pairwise (fun a b => a.i ≠ b.i) := hsort.imp (fun h => Nat.ne_of_lt h)
      have later : ∀ s ∈ l2, e.i < s.i → L s.i = true → confl ops s e = true → False := fun s hs hlt hL hc => by
        have h := drawOK_order hok hs he (Ne.symm (Nat.ne_of_lt hlt)) hc
        rw [if_pos hlt] at h
        have := beforeB_down hD 8 e.i s.i s.o (hops s hs) (hD s.i s.o hL (hops s hs)) h
        rw [hLi] at this
        cases this
      rw [foldT_add L e hLi l2 t hne he (fun s hs hlt hL x hx hd => later s hs hlt hL (by unfold confl; simp [hx, hd])) hsort]
      have hlk : ∀ k, look (foldH l2 (addL L e.i) H) k = look (merge e.m.set (foldH l2 L H)) k := fun k =>
        foldH_add k L e hLi l2 H hsort he (fun s hs hlt hL hx => by
          cases hx2 : domB s.m.set k with
          | false => rfl
          | true =>
            refine (later s hs hlt hL ?_).elim
            unfold confl
            rw [hits_of (keys_dom hx) (List.mem_append_right _ (keys_dom hx2)), Bool.or_true])
      have hd : ∀ k, domB (foldH l2 (addL L e.i) H) k = domB (merge e.m.set (foldH l2 L H)) k := fun k => by unfold domB; rw [hlk]
      have hdn : dadd e.m.dfr [] = [] := by
        cases hx : e.m.dfr with
        | none => rfl
        | some d => have := hnod e he; rw [hx] at this; cases this
      rw [hdn] at hR'
      exact ⟨hR'.tm, hR'.df, wfL_mono (fun k hk => by rw [hd]; exact hk) _ hR'.wt, wfDs_mono (fun k hk => by rw [hd]; exact hk) hR'.wd, hR'.rel.congr (fun _ _ => rfl) hlk⟩
    · have heq : e.i = p0.i := by
        by_cases hne : e.i = p0.i
        · exact hne
        · have := hpan e he hne
          rw [hch] at this
          cases this
      have hep := hinj e he p0 hp2 heq
      subst hep
      rw [hpp] at hch
      cases hch
      have hall0 : ∀ y, look (foldH l0 (fun _ => true) H) y = look H y := foldH_none _ l0 H (fun s hs _ => by
        refine hset s (by rw [hl]; exact List.mem_append_left _ hs) (fun heq => ?_)
        rw [hl] at hsort1
        have := (List.pairwise_append.1 hsort1).2.2 s hs e (by simp)
        omega)
      have h3 : ∀ (l0 : List Stp) (H : Hp), foldH (l0 ++ [e]) (fun _ => true) H = merge e.m.set (foldH l0 (fun _ => true) H) := by
        intro l0
        induction l0 with
        | nil => intro H; rfl
        | cons s r ih => intro H; rw [List.cons_append, foldH, foldH]; exact ih _
      have hsub2 : Sub H1 (merge e.m.set (foldH l2 L H)) := fun x ob hx => by
        have hx2 : look (merge e.m.set (foldH l0 (fun _ => true) H)) x = some ob := by rw [← h3, ← hl, ← hH']; exact hx
        rw [look_merge] at hx2 ⊢
        cases hm : look e.m.set x with
        | some y => rw [hm] at hx2; exact hx2
        | none =>
          rw [hm] at hx2
          simp only at hx2 ⊢
          rw [hall0 x] at hx2
          rw [← hx2]
          have hdx := domB_of hx
          have key : ∀ (l : List Stp) (G : Hp), (∀ s ∈ l, L s.i = true → domB s.m.set x = false) → look (foldH l L G) x = look G x := fun l G hk =>
            (foldH_look x L (fun _ => false) l G G rfl (fun s hs hne => by
              cases hL : L s.i with
              | true => exact hk s hs hL
              | false => exact absurd hL hne)).trans (by
                have z : ∀ (l : List Stp) (t : Hp), foldH l (fun _ => false) t = t := by
                  intro l
                  induction l with
                  | nil => intro t; rfl
                  | cons e r ih => intro t; rw [foldH]; exact ih _
                rw [z])
          refine key l2 H (fun s hs hL => ?_)
          rcases (hin s).1 hs with hs1 | hs1
          · rw [hset s hs1 (hLn s hs hL)]; rfl
          · cases hq : domB s.m.set x with
            | false => rfl
            | true =>
              have := ((hexk s hs1).2 x hq).1
              rw [hdx] at this
              cases this
      exact hQ β'' a' w' (fun i hi => by rw [hb i (foldH_dom i L l2 H hi), hext i hi]) (by rw [hR'.df]; rfl) (hR'.rel.part hsub2 hclosed)
  · rintro L a w ⟨hLp, -⟩ hall
    have hsz := (Array.getElem?_eq_some_iff.1 (hops p0 hp2)).1
    rw [hall p0.i hsz] at hLp
    cases hLp
  · have z1 : ∀ (l : List Stp) (t : List Value), foldT l (fun _ => false) t = t := by
      intro l
      induction l with
      | nil => intro t; rfl
      | cons e r ih => intro t; rw [foldT]; exact ih _
    have z2 : ∀ (l : List Stp) (t : Hp), foldH l (fun _ => false) t = t := by
      intro l
      induction l with
      | nil => intro t; rfl
      | cons e r ih => intro t; rw [foldH]; exact ih _
    exact ⟨rfl, fun _ _ h => (by cases h), β, fun _ _ => rfl, by rw [z1, z2]; exact hR⟩

/-- Code that ends in such a panic. -/
def vpan (P : Program) (call : CallF) (m : Nat) : Nat → Code → List Value → Hp → Ctl → Option (List PanicEntry × Hp × Ctl)
  | 0, _, _, _, _ => none
  | n + 1, k, t, H, c =>
    match k with
    | .seq x y =>
      match (match x with | .region _ ops true => vdrawP P call ops t H c | _ => none) with
      | some r => some r
      | none =>
        match vcode P call none m x t [] H c with
        | some (.normal, t', [], H', c') => vpan P call m n y t' H' c'
        | _ => none
    | _ => none
theorem vpan_spec {call : CallF} (hcall : CallOK P call) (hmix : P.follows .mixedOrders = true) (m : Nat) : ∀ (n : Nat) (k : Code) (t : List Value) (H : Hp) (c : Ctl) (ch : List PanicEntry) (H' : Hp) (c' : Ctl), vpan P call m n k t H c = some (ch, H', c') →
    (AllP c'.obl → AllP c.obl) ∧ (∀ i, domB H i = true → domB H' i = true) ∧ (AllP c'.obl → ∀ (n0 : Nat) (A : Nat → Prop) (w0 : World) (β : Num) (a : Act) (w : World), RelA A w0 β [] t H a w →
      k.wpIn Fence.wide n0 P (fun e a' w' => e = .panic ch ∧ ∃ β', (∀ i, domB H i = true → β' i = β i) ∧ a'.defers = [] ∧ Rel A w0 β' H' w') a w) := by
  intro n
  induction n with
  | zero => intro k t H c ch H' c' h; cases h
  | succ n ih =>
    intro k t H c ch H' c' h
    simp only [vpan] at h
    split at h
    case h_2 => cases h
    rename_i x y
    split at h
    · rename_i r hr
      split at hr
      case h_2 => cases hr
      rename_i id ops
      simp only [Option.some.injEq] at h
      subst h
      obtain ⟨v1, v2, v3⟩ := vdrawP_spec hcall hr
      refine ⟨v1, v2, fun z n0 A w0 β a w hR => wpIn_seq (wpIn_region_any hmix ?_)⟩
      refine v3 z none n0 _ A w0 β a w.drew ⟨hR.tm, hR.df, hR.wt, hR.wd, hR.rel.drew⟩ (fun β' a' w' hb hd hR' => ?_)
      exact ⟨rfl, β', hb, hd, hR'⟩
    · split at h
      case h_2 => cases h
      rename_i t' H2 c2 hv
      obtain ⟨m1, d1, r1⟩ := vcode_does hcall hmix none m _ _ _ _ _ _ _ _ _ _ hv
      obtain ⟨m2, d2, r2⟩ := ih _ _ _ _ _ _ _ h
      refine ⟨fun z => m1 (m2 z), fun i hi => d2 i (d1 i hi), fun z n0 A w0 β a w hR => wpIn_seq (wpIn_mono (r1 (m2 z) (fun l hl => by cases hl) n0 A w0 β a w hR) ?_)⟩
      rintro e a' w' ⟨rfl, β', hb, hR'⟩
      refine wpIn_mono (r2 z n0 A w0 β' a' w' hR') ?_
      rintro e a'' w'' ⟨rfl, β'', hb', hd, hR''⟩
      exact ⟨rfl, β'', fun i hi => (hb' i (d1 i hi)).trans (hb i hi), hd, hR''⟩
end

/-- A function that ends so. -/
def runP (P : Program) (f : Nat) (args : Array Value) (H : Hp) (orc : List (Option Bool)) (ans : List (Nat × Res)) (bls : List (Nat × Res × Hp)) : Option (Res × Hp × List Prop) :=
  match P.funcs[f]? with
  | some fc =>
    match fc.body with
    | some body => (vpan P (vfun P (smB P) 300 19) 300 300 body (frame0 fc args) H (ctl2 2000 orc ans bls)).map fun x => (.pan x.1, x.2.1.filter (fun e => domB H e.1), x.2.2.obl.reverse)
    | none => none
  | none => none
theorem runP_calls {P : Program} (hmix : P.follows .mixedOrders = true) {f : Nat} {args : Array Value} {H : Hp} {orc : List (Option Bool)} {ans : List (Nat × Res)} {bls : List (Nat × Res × Hp)} {r : Res} {H' : Hp} {obl : List Prop}
    (h : runP P f args H orc ans bls = some (r, H', obl)) (ho : AllP obl) (ha : wfA (domB H) args = true) (hc : closedH H' = true) : CallsV P (.func f) args H r H' := by
  unfold runP at h
  split at h
  case h_2 => cases h
  rename_i fc hf
  split at h
  case h_2 => cases h
  rename_i body hb
  rw [Option.map_eq_some_iff] at h
  obtain ⟨⟨ch, H1, c'⟩, h1, h2⟩ := h
  simp only [Prod.mk.injEq] at h2
  obtain ⟨rfl, rfl, rfl⟩ := h2
  obtain ⟨m1, d1, r1⟩ := vpan_spec (vfun_ok (smB_ok P) hmix 300 19) hmix 300 300 body _ _ _ _ _ _ h1
  intro β w hR
  refine (callsIn_wide (n := 0)).1 (callsIn_of_wp_marks hf hb trivial (wpIn_mono (r1 ((allP_reverse _).1 ho) 0 (rng β H) w β _ w (frame0_rel hR ha)) ?_))
  rintro e a' w' ⟨rfl, β', hb', hd, hR'⟩
  have hfin : LeavesInM Fence.wide 0 P fc a'.tmps (fun e w' => ∃ β', (∀ i, domB H i = true → β' i = β i) ∧ e = (Res.pan ch).out β' ∧ Rel (rng β H) w β' (H1.filter fun e => domB H e.1) w') a'.defers (.panicking ch) w' := by
    rw [hd]
    refine ⟨β', hb', rfl, hR'.part (fun i o hi => ?_) hc⟩
    rw [look_filter (fun k => domB H k)] at hi
    split at hi
    · exact hi
    · cases hi
  exact hfin

end Go.Proofs.Ytieplecefgnakaa

/- A walk by computation: loops of unknown length, round by round. -/
namespace Go.Proofs.Ytieplecefgnakaa
open Go Go.RowKit
set_option linter.unusedSimpArgs false
set_option linter.unusedVariables false

section
variable {P : Program}
/-- From here code comes to there. -/
def StepV (P : Program) (b : Code) (t : List Value) (D : List VDef) (H : Hp) (ex : Ex) (t' : List Value) (D' : List VDef) (H' : Hp) : Prop :=
  (∀ i, domB H i = true → domB H' i = true) ∧ ∀ (n0 : Nat) (A : Nat → Prop) (w0 : World) (β : Num) (a : Act) (w : World), RelA A w0 β D t H a w → b.wpIn Fence.wide n0 P (Came A w0 β H ex t' D' H') a w
theorem stepV_of {call : CallF} (hcall : CallOK P call) (hmix : P.follows .mixedOrders = true) {m : Nat} {b : Code} {t t' : List Value} {D D' : List VDef} {H H' : Hp} {c c' : Ctl} {ex : Ex}
    (h : vcode P call none m b t D H c = some (ex, t', D', H', c')) (ho : AllP c'.obl) : StepV P b t D H ex t' D' H' := by
  obtain ⟨m1, d1, r1⟩ := vcode_does hcall hmix none m _ _ _ _ _ _ _ _ _ _ h
  exact ⟨d1, fun n0 A w0 β a w hR => r1 ho (fun l hl => by cases hl) n0 A w0 β a w hR⟩
theorem StepV.seq {x y : Code} {t t1 t2 : List Value} {D D1 D2 : List VDef} {H H1 H2 : Hp} {ex : Ex} (h1 : StepV P x t D H .normal t1 D1 H1) (h2 : StepV P y t1 D1 H1 ex t2 D2 H2) : StepV P (.seq x y) t D H ex t2 D2 H2 := by
  refine ⟨fun i hi => h2.1 i (h1.1 i hi), fun n0 A w0 β a w hR => wpIn_seq (wpIn_mono (h1.2 n0 A w0 β a w hR) ?_)⟩
  rintro e a' w' ⟨rfl, β', hb, hR'⟩
  refine wpIn_mono (h2.2 n0 A w0 β' a' w' hR') ?_
  rintro e a'' w'' ⟨rfl, β'', hb', hR''⟩
  exact ⟨rfl, β'', fun i hi => (hb' i (h1.1 i hi)).trans (hb i hi), hR''⟩
theorem StepV.block {b : Code} {t t1 : List Value} {D D1 : List VDef} {H H1 : Hp} {id : Nat} (h : StepV P b t D H (.exit id) t1 D1 H1) : StepV P (.block id b) t D H .normal t1 D1 H1 := by
  refine ⟨h.1, fun n0 A w0 β a w hR => wpIn_block (wpIn_mono (h.2 n0 A w0 β a w hR) ?_)⟩
  rintro e a' w' ⟨rfl, hR'⟩
  simp only [Ex.out, Exit.inBlock, if_pos rfl]
  exact ⟨rfl, hR'⟩
theorem roundsIn_mono {F : Fence} {n : Nat} {b : Code} {Q Q' : Exit → Act → World → Prop} (hq : ∀ e a w, Q e a w → Q' e a w) : ∀ (m : Nat) (a : Act) (w : World), Code.roundsIn F n P b Q m a w → Code.roundsIn F n P b Q' m a w
  | 0, _, _, h => h
  | m + 1, a, w, h => wpIn_mono h (fun e a' w' h => by
    cases e with
    | normal => exact roundsIn_mono hq m a' w' h
    | _ => exact hq _ _ _ h)
/-- .. a loop, in so many rounds. -/
def LoopN (P : Program) (b : Code) (m : Nat) (t : List Value) (D : List VDef) (H : Hp) (ex : Ex) (t' : List Value) (D' : List VDef) (H' : Hp) : Prop :=
  (∀ i, domB H i = true → domB H' i = true) ∧ ∀ (n0 : Nat) (A : Nat → Prop) (w0 : World) (β : Num) (a : Act) (w : World), RelA A w0 β D t H a w → Code.roundsIn Fence.wide n0 P b (Came A w0 β H ex t' D' H') m a w
theorem LoopN.round {b : Code} {m : Nat} {t t1 t2 : List Value} {D D1 D2 : List VDef} {H H1 H2 : Hp} {ex : Ex} (h1 : StepV P b t D H .normal t1 D1 H1) (h2 : LoopN P b m t1 D1 H1 ex t2 D2 H2) : LoopN P b (m + 1) t D H ex t2 D2 H2 := by
  refine ⟨fun i hi => h2.1 i (h1.1 i hi), fun n0 A w0 β a w hR => wpIn_mono (h1.2 n0 A w0 β a w hR) ?_⟩
  rintro e a' w' ⟨rfl, β', hb, hR'⟩
  refine roundsIn_mono ?_ m a' w' (h2.2 n0 A w0 β' a' w' hR')
  rintro e a'' w'' ⟨rfl, β'', hb', hR''⟩
  exact ⟨rfl, β'', fun i hi => (hb' i (h1.1 i hi)).trans (hb i hi), hR''⟩
theorem LoopN.last {b : Code} {t t1 : List Value} {D D1 : List VDef} {H H1 : Hp} {id : Nat} (h1 : StepV P b t D H (.exit id) t1 D1 H1) : LoopN P b 1 t D H (.exit id) t1 D1 H1 := by
  refine ⟨h1.1, fun n0 A w0 β a w hR => wpIn_mono (h1.2 n0 A w0 β a w hR) ?_⟩
  rintro e a' w' ⟨rfl, hR'⟩
  exact ⟨rfl, hR'⟩
theorem LoopN.loop {b : Code} {m : Nat} {t t1 : List Value} {D D1 : List VDef} {H H1 : Hp} {ex : Ex} (h : LoopN P b m t D H ex t1 D1 H1) : StepV P (.loop b) t D H ex t1 D1 H1 :=
  ⟨h.1, fun n0 A w0 β a w hR => wpIn_loop_rounds m (h.2 n0 A w0 β a w hR)⟩
/-- A function that has come to its end. -/
theorem callsV_step {f : Nat} {fc : Func} {body : Code} (hf : P.funcs[f]? = some fc) (hb : fc.body = some body) {args : Array Value} {H H1 H' : Hp} {ex : Ex} {t1 : List Value} {v : Value}
    (h : StepV P body (frame0 fc args) [] H ex t1 [] H1) (he : exEnds ex = true) (hv : vresults P fc t1 H1 = some v) (ha : wfA (domB H) args = true) (hs : Sub H' H1) (hc : closedH H' = true) : CallsV P (.func f) args H (.ret v) H' := by
  intro β w hR
  refine (callsIn_wide (n := 0)).1 (callsIn_of_wp_marks hf hb trivial (wpIn_mono (h.2 0 (rng β H) w β _ w (frame0_rel hR ha)) ?_))
  rintro e a' w' ⟨rfl, β', hb', hRc⟩
  have hR' : RelA (rng β H) w β' [] t1 H1 a' w' := by
    cases ex with
    | pan ch => cases he
    | _ => exact hRc
  have hfin : LeavesInM Fence.wide 0 P fc a'.tmps (fun e w' => ∃ β', (∀ i, domB H i = true → β' i = β i) ∧ e = (Res.ret v).out β' ∧ Rel (rng β H) w β' H' w') a'.defers .returning w' := by
    rw [hR'.tm, hR'.df]
    exact ⟨ren β' v, vresults_run hR'.rel hv, β', hb', rfl, hR'.rel.part hs hc⟩
  cases ex with
  | normal => exact hfin
  | ret => exact hfin
  | _ => cases he

/-- Answers with blocks, of functions and of rounds of loops (1000000 and the record's number). -/
def smC (P : Program) : CallF := fun fn args H c =>
  match smB P fn args H c with
  | some r => some r
  | none =>
    match fn, c.bls with
    | .yield l, (g, r, H') :: rest => if Nat.beq (1000000 + l) g then some (r, H', { c with bls := rest, obl := CallsV P (.yield l) args H r H' :: c.obl }) else none
    | _, _ => none
theorem smC_ok (P : Program) : CallOK P (smC P) := by
  intro fn args H c r H' c' h
  unfold smC at h
  split at h
  · rename_i r' hr
    cases h
    exact smB_ok P _ _ _ _ _ _ _ hr
  · split at h
    case h_2 => cases h
    rename_i l g r0 G rest hfn
    split at h
    case isFalse => cases h
    simp only [Option.some.injEq, Prod.mk.injEq] at h
    obtain ⟨rfl, rfl, rfl⟩ := h
    exact ⟨fun z => z.2, fun z _ _ => z.1⟩
/-- A round of a loop. -/
def runY (P : Program) (l : Nat) (args : Array Value) (H : Hp) (orc : List (Option Bool)) (ans : List (Nat × Res)) (bls : List (Nat × Res × Hp)) : Option (Res × Hp × List Prop) :=
  (vfun P (smB P) 300 20 (.yield l) args H (ctl2 2000 orc ans bls)).map fun x => (x.1, x.2.1.filter (fun e => domB H e.1), x.2.2.obl.reverse)
theorem runY_calls {P : Program} (hmix : P.follows .mixedOrders = true) {l : Nat} {args : Array Value} {H : Hp} {orc : List (Option Bool)} {ans : List (Nat × Res)} {bls : List (Nat × Res × Hp)} {r : Res} {H' : Hp} {obl : List Prop}
    (h : runY P l args H orc ans bls = some (r, H', obl)) (ho : AllP obl) (hl : domB H l = true) (ha : wfA (domB H) args = true) (hc : closedH H' = true) : CallsV P (.yield l) args H r H' := by
  unfold runY at h
  rw [Option.map_eq_some_iff] at h
  obtain ⟨⟨r', H1, c'⟩, h1, h2⟩ := h
  simp only [Prod.mk.injEq] at h2
  obtain ⟨rfl, rfl, rfl⟩ := h2
  have key := (vfun_ok (smB_ok P) hmix 300 20 _ _ _ _ _ _ _ h1).2 ((allP_reverse _).1 ho) hl ha
  intro β w hR n
  have k2 := key β w hR n
  obtain ⟨fn, tmps, assign, body, hy, hr⟩ := k2
  refine ⟨fn, tmps, assign, body, hy, RoundIn.mono hr ?_⟩
  rintro e w' ⟨β', hb, rfl, hR'⟩
  refine ⟨β', hb, rfl, hR'.part (fun i o hi => ?_) hc⟩
  rw [look_filter (fun k => domB H k)] at hi
  split at hi
  · exact hi
  · cases hi
/-- Code from a state on, computed. -/
def runS (P : Program) (b : Code) (t : List Value) (H : Hp) (orc : List (Option Bool)) (ans : List (Nat × Res)) (bls : List (Nat × Res × Hp)) : Option (Ex × List Value × Hp × List Prop) :=
  match vcode P (vfun P (smC P) 300 19) none 300 b t [] H (ctl2 3000 orc ans bls) with
  | some (ex, t', [], H', c') => some (ex, t', H', c'.obl.reverse)
  | _ => none
theorem runS_step {P : Program} (hmix : P.follows .mixedOrders = true) {b : Code} {t t' : List Value} {H H' : Hp} {orc : List (Option Bool)} {ans : List (Nat × Res)} {bls : List (Nat × Res × Hp)} {ex : Ex} {obl : List Prop}
    (h : runS P b t H orc ans bls = some (ex, t', H', obl)) (ho : AllP obl) : StepV P b t [] H ex t' [] H' := by
  unfold runS at h
  split at h
  case h_2 => cases h
  rename_i ex1 t1 H1 c1 hv
  simp only [Option.some.injEq, Prod.mk.injEq] at h
  obtain ⟨rfl, rfl, rfl, rfl⟩ := h
  exact stepV_of (vfun_ok (smC_ok P) hmix 300 19) hmix hv ((allP_reverse _).1 ho)
end

end Go.Proofs.Ytieplecefgnakaa

/- A walk by computation: loops whose rounds leave blocks behind: blocks get their old numbers again. -/
namespace Go.Proofs.Ytieplecefgnakaa
open Go Go.RowKit
set_option linter.unusedSimpArgs false
set_option linter.unusedVariables false

def rnm (ρ : Nat → Nat) : Num := fun i => (ρ i, capU)
theorem capR_rnm (ρ : Nat → Nat) (i c : Nat) : capR (rnm ρ i) c = c := by
  unfold capR rnm
  split
  · rename_i h; exact h.symm
  · rfl
theorem renF_comp (β : Num) (ρ : Nat → Nat) (f : Fn) : renF β (renF (rnm ρ) f) = renF (fun i => β (ρ i)) f := by cases f <;> rfl
mutual
theorem ren_comp (β : Num) (ρ : Nat → Nat) : ∀ v, ren β (ren (rnm ρ) v) = ren (fun i => β (ρ i)) v
  | .bool b => rfl
  | .int k m => rfl
  | .float k m => rfl
  | .complex k x y => rfl
  | .string s => rfl
  | .pointer none => rfl
  | .pointer (some a) => rfl
  | .slice none l c => rfl
  | .slice (some a) l c => by simp only [ren, capR_rnm]; rfl
  | .map none => rfl
  | .map (some r) => rfl
  | .chan none => rfl
  | .chan (some r) => rfl
  | .func fn first captured => by simp only [ren, renF_comp, renA_comp β ρ first, renA_comp β ρ captured]
  | .nilFunc => rfl
  | .iface t v => by simp only [ren, ren_comp β ρ v]
  | .nilIface => rfl
  | .agg cs => by simp only [ren, renA_comp β ρ cs]
  | .tuple cs => by simp only [ren, renA_comp β ρ cs]
theorem renA_comp (β : Num) (ρ : Nat → Nat) : ∀ v, renA β (renA (rnm ρ) v) = renA (fun i => β (ρ i)) v
  | ⟨l⟩ => by simp only [renA, renL_comp β ρ l]
theorem renL_comp (β : Num) (ρ : Nat → Nat) : ∀ v, renL β (renL (rnm ρ) v) = renL (fun i => β (ρ i)) v
  | [] => rfl
  | v :: l => by simp only [renL, ren_comp β ρ v, renL_comp β ρ l]
end
/-- A block whose blocks get other numbers. -/
def renO (ρ : Nat → Nat) : Obj → Obj
  | .cells c T fr => .cells (renA (rnm ρ) c) T fr
  | .loop r => .loop { r with tmps := renA (rnm ρ) r.tmps, defers := ρ r.defers }
  | o => o
theorem lies_comp {β : Num} {ρ : Nat → Nat} {o : Obj} {cap : Nat} {x : Option Obj} (h : LiesO β cap (renO ρ o) x) : LiesO (fun i => β (ρ i)) cap o x := by
  cases o with
  | cells c T fr =>
    simp only [renO, LiesO, renA_comp] at h ⊢
    exact h
  | loop r =>
    simp only [renO, LiesO, renA_comp] at h ⊢
    exact h
  | _ => exact h
/-- The same state by other numbers, some blocks left out. -/
structure Renum (H0 : Hp) (t1 : List Value) (D1 : List VDef) (H1 : Hp) (t2 : List Value) (D2 : List VDef) (H2 : Hp) (ρ : Nat → Nat) : Prop where
  fix : ∀ i, domB H0 i = true → ρ i = i
  tm : renL (rnm ρ) t2 = t1
  df : D2.map (renD (rnm ρ)) = D1.map (renD idN)
  at_ : ∀ i o, look H2 i = some o → isLive o = true → look H1 (ρ i) = some (renO ρ o)
  inj : ∀ i j, liveB H2 i = true → liveB H2 j = true → ρ i = ρ j → i = j
  wf : closedH H2 = true
  wt : wfL (domB H2) t2 = true
  wd : wfDs (domB H2) D2 = true
theorem renD_comp (β : Num) (ρ : Nat → Nat) (d : VDef) (e : VDef) (h : renD (rnm ρ) d = renD idN e) : renD (fun i => β (ρ i)) d = renD β e := by
  cases d with
  | mark r =>
    cases e with
    | mark s =>
      simp only [renD, Deferred.mk.injEq, Target.collected.injEq] at h
      have h1 : ρ r = s := h.1
      simp only [renD, h1]
    | fn f cap args => simp [renD] at h
  | fn f cap args =>
    cases e with
    | mark s => simp [renD] at h
    | fn g cap' args' =>
      simp only [renD, Deferred.mk.injEq, Target.fn.injEq, Fn.func.injEq, renA_id] at h
      obtain ⟨⟨rfl, h1⟩, h2⟩ := h
      simp only [renD, ← renA_comp, h1, h2]
theorem RelA.renum {A : Nat → Prop} {w0 : World} {β : Num} {H0 H1 H2 : Hp} {t1 t2 : List Value} {a : Act} {w : World} {ρ : Nat → Nat} (h : RelA A w0 β [] t1 H1 a w) (hr : Renum H0 t1 [] H1 t2 [] H2 ρ) : RelA A w0 (fun i => β (ρ i)) [] t2 H2 a w := by
  have hlv : ∀ i, liveB H2 i = true → liveB H1 (ρ i) = true := fun i hi => by
    obtain ⟨o, ho, hl⟩ := liveB_iff.1 hi
    refine liveB_of (hr.at_ i o ho hl) ?_
    cases o with
    | coro p => cases hl
    | _ => rfl
  refine ⟨?_, h.df, hr.wt, hr.wd, ?_⟩
  · rw [h.tm, ← hr.tm, renL_comp]
  · refine ⟨fun i o ho => ?_, fun i j hi hj e => hr.inj i j hi hj (h.rel.inj _ _ (hlv i hi) (hlv j hj) e), fun i hi => h.rel.own _ (hlv i hi), closedH_spec hr.wf, h.rel.kp⟩
    by_cases hl : isLive o = true
    · exact lies_comp (h.rel.lies _ _ (hr.at_ i o ho hl))
    · cases o with
      | coro p => exact trivial
      | _ => exact absurd rfl hl

section
variable {P : Program}
/-- Code from a state on, computed; new blocks are numbered from n on. -/
def runNS (P : Program) (n : Nat) (b : Code) (t : List Value) (H : Hp) (orc : List (Option Bool)) (ans : List (Nat × Res)) (bls : List (Nat × Res × Hp)) : Option (Ex × List Value × Hp × List Prop) :=
  match vcode P (vfun P (smC P) 300 19) none 300 b t [] H (ctl2 n orc ans bls) with
  | some (ex, t', [], H', c') => some (ex, t', H', c'.obl.reverse)
  | _ => none
theorem runNS_step (hmix : P.follows .mixedOrders = true) {n : Nat} {b : Code} {t t' : List Value} {H H' : Hp} {orc : List (Option Bool)} {ans : List (Nat × Res)} {bls : List (Nat × Res × Hp)} {ex : Ex} {obl : List Prop}
    (h : runNS P n b t H orc ans bls = some (ex, t', H', obl)) (ho : AllP obl) : StepV P b t [] H ex t' [] H' := by
  unfold runNS at h
  split at h
  case h_2 => cases h
  rename_i ex1 t1 H1 c1 hv
  simp only [Option.some.injEq, Prod.mk.injEq] at h
  obtain ⟨rfl, rfl, rfl, rfl⟩ := h
  exact stepV_of (vfun_ok (smC_ok P) hmix 300 19) hmix hv ((allP_reverse _).1 ho)
/-- A loop in so many rounds, seen from the blocks H0 that were there ahead of it. -/
def LoopI (P : Program) (b : Code) (H0 : Hp) (m : Nat) (t : List Value) (H : Hp) (ex : Ex) (t' : List Value) (H' : Hp) : Prop :=
  ∀ (n0 : Nat) (A : Nat → Prop) (w0 : World) (β β1 : Num) (a : Act) (w : World), (∀ i, domB H0 i = true → β1 i = β i) → RelA A w0 β1 [] t H a w → Code.roundsIn Fence.wide n0 P b (Came A w0 β H0 ex t' [] H') m a w
theorem LoopI.round {b : Code} {H0 : Hp} {m : Nat} {t t1 t2 t' : List Value} {H H1 H2 H' : Hp} {ex : Ex} {ρ : Nat → Nat} (hd : ∀ i, domB H0 i = true → domB H i = true) (h1 : StepV P b t [] H .normal t1 [] H1) (hr : Renum H0 t1 [] H1 t2 [] H2 ρ) (h2 : LoopI P b H0 m t2 H2 ex t' H') :
    LoopI P b H0 (m + 1) t H ex t' H' := by
  intro n0 A w0 β β1 a w hb hR
  refine wpIn_mono (h1.2 n0 A w0 β1 a w hR) ?_
  rintro e a' w' ⟨rfl, β', hb', hR'⟩
  have hR2 := RelA.renum (H0 := H0) hR' hr
  exact h2 n0 A w0 β _ a' w' (fun i hi => by rw [hr.fix i hi, hb' i (hd i hi), hb i hi]) hR2
theorem LoopI.last {b : Code} {H0 : Hp} {t t' : List Value} {H H' : Hp} {id : Nat} (hd : ∀ i, domB H0 i = true → domB H i = true) (h1 : StepV P b t [] H (.exit id) t' [] H') : LoopI P b H0 1 t H (.exit id) t' H' := by
  intro n0 A w0 β β1 a w hb hR
  refine wpIn_mono (h1.2 n0 A w0 β1 a w hR) ?_
  rintro e a' w' ⟨rfl, β', hb', hR'⟩
  exact ⟨rfl, β', fun i hi => (hb' i (hd i hi)).trans (hb i hi), hR'⟩
theorem LoopI.lastRet {b : Code} {H0 : Hp} {t t' : List Value} {H H' : Hp} (hd : ∀ i, domB H0 i = true → domB H i = true) (h1 : StepV P b t [] H .ret t' [] H') : LoopI P b H0 1 t H .ret t' H' := by
  intro n0 A w0 β β1 a w hb hR
  refine wpIn_mono (h1.2 n0 A w0 β1 a w hR) ?_
  rintro e a' w' ⟨rfl, β', hb', hR'⟩
  exact ⟨rfl, β', fun i hi => (hb' i (hd i hi)).trans (hb i hi), hR'⟩
theorem LoopI.loop {b : Code} {m : Nat} {t t1 : List Value} {H H1 : Hp} {ex : Ex} (hd : ∀ i, domB H i = true → domB H1 i = true) (h : LoopI P b H m t H ex t1 H1) : StepV P (.loop b) t [] H ex t1 [] H1 :=
  ⟨hd, fun n0 A w0 β a w hR => wpIn_loop_rounds m (h n0 A w0 β β a w (fun _ _ => rfl) hR)⟩
end

end Go.Proofs.Ytieplecefgnakaa
