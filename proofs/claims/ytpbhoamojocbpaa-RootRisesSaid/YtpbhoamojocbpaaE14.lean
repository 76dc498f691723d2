/- A walk by computation: a panic out of a region that draws its order, where new blocks may have been made ahead of it. -/
import Derived.Test.YtpbhoamojocbpaaE13
namespace Go.Proofs.Ytpbhoamojocbpaa
open Go Go.RowKit
set_option linter.unusedSimpArgs false
set_option linter.unusedVariables false

section
variable {P : Program} {ops : Array Oper}

/-- A new block that hangs on nothing. -/
def vext1 (P : Program) (ops : Array Oper) (H : Hp) (k n : Nat) : Option Stp :=
  match ops[k]? with
  | some o =>
    match o.guard, o.op with
    | none, .alloc _ =>
      match veffM P H [] o { n := n, orc := [], obl := [], log := [] } with
      | some (m, [], _) => some ⟨k, o, m, []⟩
      | _ => none
    | _, _ => none
  | none => none
/-- What stands behind the panic in the text and may come ahead of it. -/
def vexts (P : Program) (ops : Array Oper) (H : Hp) (p : Nat) : List Nat → Nat → Option (List Stp)
  | [], _ => some []
  | k :: r, n =>
    if beforeB ops 8 p k then vexts P ops H p r n
    else
      match vext1 P ops H k n with
      | some e =>
        match vexts P ops H p r (n + 1) with
        | some l => some (e :: l)
        | none => none
      | none => none
theorem vext1_spec {H : Hp} {k n : Nat} {e : Stp} (h : vext1 P ops H k n = some e) : e.i = k ∧ ops[k]? = some e.o ∧ e.r = [] ∧ ∀ t, MicDoes P ops e.o t [] e.m := by
  unfold vext1 at h
  split at h
  case h_2 => cases h
  rename_i o ho
  split at h
  case h_2 => cases h
  rename_i T hg hop
  split at h
  case h_2 => cases h
  rename_i m c' hm
  simp only [Option.some.injEq] at h
  subst h
  have hall : o.op.operands.toList.all opdOK = true := by rw [hop]; rfl
  obtain ⟨-, -, -, hd⟩ := veffM_does (ops := ops) hall hm
  have hl : o.looksAt ops = [] := by
    unfold Oper.looksAt
    rw [hop, hg]
    rfl
  have hw : Wants ops o [] := fun a t' β _ _ => by unfold Region.wanted; rw [hg]
  refine ⟨rfl, ho, rfl, fun t => ?_⟩
  intro ro n Q K A w0 β D t' H' a w i hi hR ht
  exact hd hw ro n Q K A w0 β D t' H' a w i hi hR (fun x hx => by rw [hl] at hx; cases hx)
theorem vexts_spec {H : Hp} {p : Nat} : ∀ (is : List Nat) (n : Nat) (ex : List Stp), is.Pairwise (· < ·) → vexts P ops H p is n = some ex →
    (∀ e ∈ ex, e.i ∈ is ∧ ops[e.i]? = some e.o ∧ e.r = [] ∧ ∀ t, MicDoes P ops e.o t [] e.m) ∧ (∀ k ∈ is, beforeB ops 8 p k = true ∨ ∃ e ∈ ex, e.i = k) ∧ ex.Pairwise (fun a b => a.i < b.i) := by
  intro is
  induction is with
  | nil =>
    intro n ex _ h
    simp only [vexts, Option.some.injEq] at h
    subst h
    exact ⟨fun _ h => (by cases h), fun _ h => (by cases h), List.Pairwise.nil⟩
  | cons k r ih =>
    intro n ex hp h
    have hp2 := List.pairwise_cons.1 hp
    simp only [vexts] at h
    split at h
    · rename_i hb
      obtain ⟨h1, h2, h3⟩ := ih _ _ hp2.2 h
      refine ⟨fun e he => ?_, fun j hj => ?_, h3⟩
      · obtain ⟨a, b⟩ := h1 e he
        exact ⟨List.mem_cons_of_mem _ a, b⟩
      · rcases List.mem_cons.1 hj with hj1 | hj1
        · rw [hj1]; exact .inl hb
        · exact h2 j hj1
    · split at h
      case h_2 => cases h
      rename_i e he
      split at h
      case h_2 => cases h
      rename_i l hl
      simp only [Option.some.injEq] at h
      subst h
      obtain ⟨h1, h2, h3⟩ := ih _ _ hp2.2 hl
      obtain ⟨e1, e2, e3, e4⟩ := vext1_spec he
      refine ⟨fun x hx => ?_, fun j hj => ?_, List.pairwise_cons.2 ⟨fun x hx => ?_, h3⟩⟩
      · rcases List.mem_cons.1 hx with hx1 | hx1
        · rw [hx1]; exact ⟨by rw [e1]; exact List.mem_cons_self, by rw [e1]; exact e2, e3, e4⟩
        · obtain ⟨a, b⟩ := h1 x hx1
          exact ⟨List.mem_cons_of_mem _ a, b⟩
      · rcases List.mem_cons.1 hj with hj1 | hj1
        · exact .inr ⟨e, List.mem_cons_self, by rw [e1, hj1]⟩
        · rcases h2 j hj1 with h | ⟨x, hx, hx2⟩
          · exact .inl h
          · exact .inr ⟨x, List.mem_cons_of_mem _ hx, hx2⟩
      · rw [e1]
        exact hp2.1 x.i (h1 x hx).1

def drawPOK (ops : Array Oper) (H H' : Hp) (l ex : List Stp) (p : Nat) : Bool :=
  drawOK ops H (l ++ ex) && (closedH H' && ((l.all fun e => e.i == p || e.m.set.isEmpty) && ((ex.all fun e => e.m.pan.isNone && (keys e.m.set).all fun k => !domB H' k && !domB (foldH (l ++ ex) (fun j => decide (j < e.i)) H) k) &&
    (List.range ops.size).all fun k => match ops[k]? with | some o => o.after.toList.all fun x => !Region.binds .any x || decide (x.on < k) | none => true)))
def vdrawP (P : Program) (call : CallF) (ops : Array Oper) (t : List Value) (H : Hp) (c : Ctl) : Option (List PanicEntry × Hp × Ctl) :=
  match vsteps P call ops (List.range ops.size) t [] H c with
  | some (l, .pan ch _ _ H' c') =>
    match l.getLast? with
    | some p =>
      match vexts P ops H p.i (List.range' (p.i + 1) (ops.size - (p.i + 1))) c'.n with
      | some ex => if drawPOK ops H H' l ex p.i then some (ch, H', c') else none
      | none => none
    | none => none
  | _ => none

theorem vdrawP_spec {call : CallF} (hcall : CallOK P call) {t : List Value} {H : Hp} {c : Ctl} {ch : List PanicEntry} {H' : Hp} {c' : Ctl} (h : vdrawP P call ops t H c = some (ch, H', c')) :
    (AllP c'.obl → AllP c.obl) ∧ (∀ i, domB H i = true → domB H' i = true) ∧ (AllP c'.obl → ∀ (ro : Option Nat) (n : Nat) (Q : Exit → Act → World → Prop) (A : Nat → Prop) (w0 : World) (β : Nat → Nat) (a : Act) (w : World), RelA A w0 β [] t H a w →
      (∀ β' a' w', (∀ i, domB H i = true → β' i = β i) → a'.defers = [] → Rel A w0 β' H' w' → Q (.panic ch) a' w') → wpAnyIn (Fw ro) n P .any ops Q ops.size (Array.replicate ops.size false) a w) := by
  unfold vdrawP at h
  split at h
  case h_2 => cases h
  rename_i l ch1 t1 D1 H1 c1 hs
  split at h
  case h_2 => cases h
  rename_i p0 hlast
  split at h
  case h_2 => cases h
  rename_i ex hex
  split at h
  case isFalse => cases h
  rename_i hpk
  simp only [Option.some.injEq, Prod.mk.injEq] at h
  obtain ⟨rfl, rfl, rfl⟩ := h
  obtain ⟨hm1, ⟨rest, hidx⟩, hDD, ⟨l0, p, hl, hpp, hpn⟩, hH', hst⟩ := vsteps_specP hcall (List.range ops.size) t [] H c l ch1 t1 D1 H1 c1 List.pairwise_lt_range hs
  have hp0 : p0 = p := by
    rw [hl, List.getLast?_append] at hlast
    simpa using hlast.symm
  subst hp0
  refine ⟨hm1, fun i hi => by rw [hH']; exact foldH_dom i _ l H hi, fun hobl ro n Q A w0 β a w hR hQ => ?_⟩
  have hsort1 : l.Pairwise (fun a b => a.i < b.i) := by
    have := List.pairwise_lt_range (n := ops.size)
    rw [hidx] at this
    exact List.pairwise_map.1 (List.pairwise_append.1 this).1
  obtain ⟨x1, x2, x3⟩ := vexts_spec (P := P) _ _ _ List.pairwise_lt_range' hex
  have hpl : p0 ∈ l := by rw [hl]; simp
  have hplast : ∀ e ∈ l, e.i ≤ p0.i := fun e he => by
    rw [hl] at he hsort1
    rcases List.mem_append.1 he with he | he
    · exact Nat.le_of_lt ((List.pairwise_append.1 hsort1).2.2 e he p0 (by simp))
    · rw [List.mem_singleton] at he; rw [he]; exact Nat.le_refl _
  have hexgt : ∀ e ∈ ex, p0.i < e.i := fun e he => by
    have := (x1 e he).1
    rw [List.mem_range'_1] at this
    omega
  obtain ⟨l2, hl2⟩ : ∃ l2, l ++ ex = l2 := ⟨_, rfl⟩
  have hsort : l2.Pairwise (fun a b => a.i < b.i) := by
    rw [← hl2]
    exact List.pairwise_append.2 ⟨hsort1, x3, fun a ha b hb => Nat.lt_of_le_of_lt (hplast a ha) (hexgt b hb)⟩
  unfold drawPOK at hpk
  rw [hl2] at hpk
  simp only [Bool.and_eq_true] at hpk
  obtain ⟨hok, hclosed, hset0, hex0, hlow0⟩ := hpk
  have hok2 := hok
  unfold drawOK at hok2
  simp only [Bool.and_eq_true] at hok2
  have hnod : ∀ e ∈ l2, e.m.dfr.isSome = false := fun e he => by
    have := List.all_eq_true.1 hok2.1.1.1 e he
    cases hx : e.m.dfr with
    | none => rfl
    | some d => rw [hx] at this; cases this
  have hset : ∀ e ∈ l, e.i ≠ p0.i → e.m.set = [] := fun e he hne => by
    have := List.all_eq_true.1 hset0 e he
    rw [beq_eq_false_iff_ne.2 hne, Bool.false_or] at this
    exact List.isEmpty_iff.1 this
  have hexk : ∀ e ∈ ex, e.m.pan = none ∧ ∀ k, domB e.m.set k = true → domB H1 k = false ∧ domB (foldH l2 (fun j => decide (j < e.i)) H) k = false := fun e he => by
    have := List.all_eq_true.1 hex0 e he
    rw [Bool.and_eq_true] at this
    refine ⟨by simpa using this.1, fun k hk => ?_⟩
    have h2 := List.all_eq_true.1 this.2 k (keys_dom hk)
    simpa using h2
  have hlow : ∀ (k : Nat) (o : Oper), ops[k]? = some o → ∀ x ∈ o.after, Region.binds .any x = true → x.on < k := fun k o ho x hx hb => by
    have := List.all_eq_true.1 hlow0 k (List.mem_range.2 (Array.getElem?_eq_some_iff.1 ho).1)
    rw [ho] at this
    have h1 := List.all_eq_true.1 this x (by simpa using hx)
    rw [hb] at h1
    simpa using h1
  have hin : ∀ e, e ∈ l2 ↔ e ∈ l ∨ e ∈ ex := fun e => by rw [← hl2, List.mem_append]
  have hlen : ∀ i, i < ops.size → beforeB ops 8 p0.i i = false → ∃ e ∈ l2, e.i = i := fun i hi hnb => by
    by_cases hle : i ≤ p0.i
    · have hm : i ∈ List.range ops.size := List.mem_range.2 hi
      have hw := List.pairwise_lt_range (n := ops.size)
      rw [hidx] at hm hw
      rcases List.mem_append.1 hm with hm | hm
      · obtain ⟨e, he, rfl⟩ := List.mem_map.1 hm
        exact ⟨e, (hin e).2 (.inl he), rfl⟩
      · have := (List.pairwise_append.1 hw).2.2 p0.i (List.mem_map_of_mem hpl) i hm
        omega
    · rcases x2 i (by rw [List.mem_range'_1]; omega) with h | ⟨e, he, h⟩
      · rw [hnb] at h; cases h
      · exact ⟨e, (hin e).2 (.inr he), h⟩
  have hpan : ∀ e ∈ l2, e.i ≠ p0.i → e.m.pan = none := fun e he hne => by
    rcases (hin e).1 he with he | he
    · rw [hl] at he
      rcases List.mem_append.1 he with he | he
      · exact hpn e he
      · rw [List.mem_singleton] at he; rw [he] at hne; exact absurd rfl hne
    · exact (hexk e he).1
  have hinj : ∀ e ∈ l2, ∀ s ∈ l2, e.i = s.i → e = s := by
    have key : ∀ (l : List Stp), l.Pairwise (fun a b => a.i < b.i) → ∀ e ∈ l, ∀ s ∈ l, e.i = s.i → e = s := by
      intro l
      induction l with
      | nil => intro _ e he; cases he
      | cons x r ih =>
        intro hp e he s hs heq
        have hp2 := List.pairwise_cons.1 hp
        rcases List.mem_cons.1 he with he1 | he1 <;> rcases List.mem_cons.1 hs with hs1 | hs1
        · rw [he1, hs1]
        · have := hp2.1 s hs1; rw [he1] at heq; omega
        · have := hp2.1 e he1; rw [hs1] at heq; omega
        · exact ih hp2.2 e he1 s hs1 heq
    exact key l2 hsort
  have hp2 : p0 ∈ l2 := (hin p0).2 (.inl hpl)
  have cutT : ∀ e ∈ l, ∀ t, foldT l2 (fun k => decide (k < e.i)) t = foldT l (fun k => decide (k < e.i)) t := fun e he t => by
    have key : ∀ (l : List Stp) (t : List Value), foldT (l ++ ex) (fun k => decide (k < e.i)) t = foldT l (fun k => decide (k < e.i)) t := by
      intro l
      induction l with
      | nil =>
        intro t
        have z : ∀ (ex : List Stp) (t : List Value), (∀ x ∈ ex, p0.i < x.i) → foldT ex (fun k => decide (k < e.i)) t = t := by
          intro ex
          induction ex with
          | nil => intro t _; rfl
          | cons x r ih =>
            intro t hx
            have := hx x List.mem_cons_self
            have := hplast e he
            rw [foldT, if_neg (by simp; omega)]
            exact ih _ (fun y hy => hx y (List.mem_cons_of_mem _ hy))
        exact z ex t hexgt
      | cons x r ih => intro t; rw [List.cons_append, foldT, foldT]; exact ih _
    rw [← hl2]; exact key l t
  have cutH : ∀ e ∈ l, ∀ t, foldH l2 (fun k => decide (k < e.i)) t = foldH l (fun k => decide (k < e.i)) t := fun e he t => by
    have key : ∀ (l : List Stp) (t : Hp), foldH (l ++ ex) (fun k => decide (k < e.i)) t = foldH l (fun k => decide (k < e.i)) t := by
      intro l
      induction l with
      | nil =>
        intro t
        have z : ∀ (ex : List Stp) (t : Hp), (∀ x ∈ ex, p0.i < x.i) → foldH ex (fun k => decide (k < e.i)) t = t := by
          intro ex
          induction ex with
          | nil => intro t _; rfl
          | cons x r ih =>
            intro t hx
            have := hx x List.mem_cons_self
            have := hplast e he
            rw [foldH, if_neg (by simp; omega)]
            exact ih _ (fun y hy => hx y (List.mem_cons_of_mem _ hy))
        exact z ex t hexgt
      | cons x r ih => intro t; rw [List.cons_append, foldH, foldH]; exact ih _
    rw [← hl2]; exact key l t
  have hst2 : ∀ e ∈ l2, ops[e.i]? = some e.o ∧ MicDoes P ops e.o (foldT l2 (fun k => decide (k < e.i)) t) e.r e.m ∧ Sub e.r (foldH l2 (fun k => decide (k < e.i)) H) ∧
      (∀ k, domB e.m.set k = true → domB e.r k = true ∨ domB (foldH l2 (fun k => decide (k < e.i)) H) k = false) := fun e he => by
    rcases (hin e).1 he with he | he
    · obtain ⟨a1, a2, a3, a4⟩ := hst e he
      rw [cutT e he, cutH e he]
      exact ⟨a1, a2 hobl, a3, a4⟩
    · obtain ⟨-, a1, a2, a3⟩ := x1 e he
      refine ⟨a1, by rw [a2]; exact a3 _, fun i o hi => (by rw [a2] at hi; cases hi), fun k hk => .inr ((hexk e he).2 k hk).2⟩
  have hops : ∀ e ∈ l2, ops[e.i]? = some e.o := fun e he => (hst2 e he).1
  refine wpAny_inv (fun L a w => L p0.i = false ∧ (∀ e ∈ l2, L e.i = true → e.i ≠ p0.i) ∧ ∃ β', (∀ i, domB H i = true → β' i = β i) ∧ RelA A w0 β' [] (foldT l2 L t) (foldH l2 L H) a w) ?_ (fun _ _ _ _ _ h => h) (fun k o ho x hx hb => hlow k o ho x hx hb) ?_ ops.size _ (fun _ => false) a w (by simp) (fun i => by
      by_cases hi : i < ops.size <;> simp [hi]) (fun _ _ h => (by cases h)) ?_ (Nat.le_trans (List.length_filter_le _ _) (by simp))
  · rintro L a w i o hD ⟨hLp, hLn, β', hext, hRL⟩ hLi ho hall
    have hisz := (Array.getElem?_eq_some_iff.1 ho).1
    have hnb : beforeB ops 8 p0.i i = false := by
      cases hb : beforeB ops 8 p0.i i with
      | false => rfl
      | true =>
        have := beforeB_down hD 8 p0.i i o ho hall hb
        rw [hLp] at this
        cases this
    obtain ⟨e, he, rfl⟩ := hlen i hisz hnb
    obtain ⟨ho', hdo, hsub, hfr⟩ := hst2 e he
    rw [ho] at ho'
    cases ho'
    have hodds : ∀ s ∈ l2, confl ops e s = true → L s.i = decide (s.i < e.i) := fun s hs hc => odds hok hops hD he hs hLi hall hc
    have hlook : ∀ k, k ∈ keys e.r ++ keys e.m.set → look (foldH l2 L H) k = look (foldH l2 (fun k => decide (k < e.i)) H) k := fun k hk =>
      foldH_look k _ _ l2 H H rfl (fun s hs hne => by
        cases hx : domB s.m.set k with
        | false => rfl
        | true =>
          refine absurd (hodds s hs ?_) hne
          unfold confl
          rw [hits_of (keys_dom hx) hk, Bool.or_true])
    refine hdo ro n Q _ A w0 β' [] _ _ a w e.i ho hRL (fun x hx => ?_) (fun k ob hk => ?_) (fun k hk => ?_) ?_ (fun hd => (by rw [hnod e he] at hd; cases hd)) (fun hpnone β'' a' w' hb hR' => ?_) (fun ch' hch β'' a' w' hb hR' => ?_)
    · refine foldT_get x _ _ l2 t t rfl rfl (fun s hs hne hd => hne (hodds s hs ?_))
      unfold confl
      have : (e.o.looksAt ops).contains x = true := by simpa using hx
      simp [hd, hx]
    · rw [hlook k (List.mem_append_left _ (keys_dom (domB_of hk)))]
      exact hsub k ob hk
    · rcases hfr k hk with h1 | h1
      · exact .inl h1
      · right
        unfold domB at h1 ⊢
        rw [hlook k (List.mem_append_right _ (keys_dom hk))]
        exact h1
    · have h3 := List.all_eq_true.1 hok2.2 e he
      refine wfV_mono (fun k hk => ?_) _ h3
      rw [domB_merge, Bool.or_eq_true]
      simp only [Bool.or_eq_true, List.any_eq_true, Bool.and_eq_true] at hk
      rcases hk with (hk | hk) | ⟨s, hs, hk, hbf⟩
      · exact .inl hk
      · exact .inr (foldH_dom k L l2 H hk)
      · exact .inr (foldH_dom_of k L s (beforeB_down hD 8 s.i e.i e.o ho hall hbf) hk l2 H hs)
    · have hnep : e.i ≠ p0.i := fun heq => by
        have := hinj e he p0 hp2 heq
        subst this
        rw [hpp] at hpnone
        cases hpnone
      refine ⟨?_, ?_, β'', fun i hi => by rw [hb i (foldH_dom i L l2 H hi), hext i hi], ?_⟩
      · simp only [addL]; rw [beq_eq_false_iff_ne.2 (fun h => hnep h.symm), hLp]; rfl
      · intro s hs hL heq
        simp only [addL, Bool.or_eq_true, beq_iff_eq] at hL
        rcases hL with hL | hL
        · exact hnep (by rw [← hL, heq])
        · rw [heq, hLp] at hL; cases hL
      have hne : l2.Pairwise (fun a b => a.i ≠ b.i) := hsort.imp (fun h => Nat.ne_of_lt h)
      have later : ∀ s ∈ l2, e.i < s.i → L s.i = true → confl ops s e = true → False := fun s hs hlt hL hc => by
        have h := drawOK_order hok hs he (Ne.symm (Nat.ne_of_lt hlt)) hc
        rw [if_pos hlt] at h
        have := beforeB_down hD 8 e.i s.i s.o (hops s hs) (hD s.i s.o hL (hops s hs)) h
        rw [hLi] at this
        cases this
      rw [foldT_add L e hLi l2 t hne he (fun s hs hlt hL x hx hd => later s hs hlt hL (by unfold confl; simp [hx, hd])) hsort]
      have hlk : ∀ k, look (foldH l2 (addL L e.i) H) k = look (merge e.m.set (foldH l2 L H)) k := fun k =>
        foldH_add k L e hLi l2 H hsort he (fun s hs hlt hL hx => by
          cases hx2 : domB s.m.set k with
          | false => rfl
          | true =>
            refine (later s hs hlt hL ?_).elim
            unfold confl
            rw [hits_of (keys_dom hx) (List.mem_append_right _ (keys_dom hx2)), Bool.or_true])
      have hd : ∀ k, domB (foldH l2 (addL L e.i) H) k = domB (merge e.m.set (foldH l2 L H)) k := fun k => by unfold domB; rw [hlk]
      have hdn : dadd e.m.dfr [] = [] := by
        cases hx : e.m.dfr with
        | none => rfl
        | some d => have := hnod e he; rw [hx] at this; cases this
      rw [hdn] at hR'
      exact ⟨hR'.tm, hR'.df, wfL_mono (fun k hk => by rw [hd]; exact hk) _ hR'.wt, wfDs_mono (fun k hk => by rw [hd]; exact hk) hR'.wd, hR'.rel.congr (fun _ _ => rfl) hlk⟩
    · have heq : e.i = p0.i := by
        by_cases hne : e.i = p0.i
        · exact hne
        · have := hpan e he hne
          rw [hch] at this
          cases this
      have hep := hinj e he p0 hp2 heq
      subst hep
      rw [hpp] at hch
      cases hch
      have hall0 : ∀ y, look (foldH l0 (fun _ => true) H) y = look H y := foldH_none _ l0 H (fun s hs _ => by
        refine hset s (by rw [hl]; exact List.mem_append_left _ hs) (fun heq => ?_)
        rw [hl] at hsort1
        have := (List.pairwise_append.1 hsort1).2.2 s hs e (by simp)
        omega)
      have h3 : ∀ (l0 : List Stp) (H : Hp), foldH (l0 ++ [e]) (fun _ => true) H = merge e.m.set (foldH l0 (fun _ => true) H) := by
        intro l0
        induction l0 with
        | nil => intro H; rfl
        | cons s r ih => intro H; rw [List.cons_append, foldH, foldH]; exact ih _
      have hsub2 : Sub H1 (merge e.m.set (foldH l2 L H)) := fun x ob hx => by
        have hx2 : look (merge e.m.set (foldH l0 (fun _ => true) H)) x = some ob := by rw [← h3, ← hl, ← hH']; exact hx
        rw [look_merge] at hx2 ⊢
        cases hm : look e.m.set x with
        | some y => rw [hm] at hx2; exact hx2
        | none =>
          rw [hm] at hx2
          simp only at hx2 ⊢
          rw [hall0 x] at hx2
          rw [← hx2]
          have hdx := domB_of hx
          have key : ∀ (l : List Stp) (G : Hp), (∀ s ∈ l, L s.i = true → domB s.m.set x = false) → look (foldH l L G) x = look G x := fun l G hk =>
            (foldH_look x L (fun _ => false) l G G rfl (fun s hs hne => by
              cases hL : L s.i with
              | true => exact hk s hs hL
              | false => exact absurd hL hne)).trans (by
                have z : ∀ (l : List Stp) (t : Hp), foldH l (fun _ => false) t = t := by
                  intro l
                  induction l with
                  | nil => intro t; rfl
                  | cons e r ih => intro t; rw [foldH]; exact ih _
                rw [z])
          refine key l2 H (fun s hs hL => ?_)
          rcases (hin s).1 hs with hs1 | hs1
          · rw [hset s hs1 (hLn s hs hL)]; rfl
          · cases hq : domB s.m.set x with
            | false => rfl
            | true =>
              have := ((hexk s hs1).2 x hq).1
              rw [hdx] at this
              cases this
      exact hQ β'' a' w' (fun i hi => by rw [hb i (foldH_dom i L l2 H hi), hext i hi]) (by rw [hR'.df]; rfl) (hR'.rel.part hsub2 hclosed)
  · rintro L a w ⟨hLp, -⟩ hall
    have hsz := (Array.getElem?_eq_some_iff.1 (hops p0 hp2)).1
    rw [hall p0.i hsz] at hLp
    cases hLp
  · have z1 : ∀ (l : List Stp) (t : List Value), foldT l (fun _ => false) t = t := by
      intro l
      induction l with
      | nil => intro t; rfl
      | cons e r ih => intro t; rw [foldT]; exact ih _
    have z2 : ∀ (l : List Stp) (t : Hp), foldH l (fun _ => false) t = t := by
      intro l
      induction l with
      | nil => intro t; rfl
      | cons e r ih => intro t; rw [foldH]; exact ih _
    exact ⟨rfl, fun _ _ h => (by cases h), β, fun _ _ => rfl, by rw [z1, z2]; exact hR⟩

/-- Code that ends in such a panic. -/
def vpan (P : Program) (call : CallF) (m : Nat) : Nat → Code → List Value → Hp → Ctl → Option (List PanicEntry × Hp × Ctl)
  | 0, _, _, _, _ => none
  | n + 1, k, t, H, c =>
    match k with
    | .seq x y =>
      match (match x with | .region _ ops true => vdrawP P call ops t H c | _ => none) with
      | some r => some r
      | none =>
        match vcode P call none m x t [] H c with
        | some (.normal, t', [], H', c') => vpan P call m n y t' H' c'
        | _ => none
    | _ => none
theorem vpan_spec {call : CallF} (hcall : CallOK P call) (hmix : P.follows .mixedOrders = true) (m : Nat) : ∀ (n : Nat) (k : Code) (t : List Value) (H : Hp) (c : Ctl) (ch : List PanicEntry) (H' : Hp) (c' : Ctl), vpan P call m n k t H c = some (ch, H', c') →
    (AllP c'.obl → AllP c.obl) ∧ (∀ i, domB H i = true → domB H' i = true) ∧ (AllP c'.obl → ∀ (n0 : Nat) (A : Nat → Prop) (w0 : World) (β : Nat → Nat) (a : Act) (w : World), RelA A w0 β [] t H a w →
      k.wpIn Fence.wide n0 P (fun e a' w' => e = .panic ch ∧ ∃ β', (∀ i, domB H i = true → β' i = β i) ∧ a'.defers = [] ∧ Rel A w0 β' H' w') a w) := by
  intro n
  induction n with
  | zero => intro k t H c ch H' c' h; cases h
  | succ n ih =>
    intro k t H c ch H' c' h
    simp only [vpan] at h
    split at h
    case h_2 => cases h
    rename_i x y
    split at h
    · rename_i r hr
      split at hr
      case h_2 => cases hr
      rename_i id ops
      simp only [Option.some.injEq] at h
      subst h
      obtain ⟨v1, v2, v3⟩ := vdrawP_spec hcall hr
      refine ⟨v1, v2, fun z n0 A w0 β a w hR => wpIn_seq (wpIn_region_any hmix ?_)⟩
      refine v3 z none n0 _ A w0 β a w.drew ⟨hR.tm, hR.df, hR.wt, hR.wd, hR.rel.drew⟩ (fun β' a' w' hb hd hR' => ?_)
      exact ⟨rfl, β', hb, hd, hR'⟩
    · split at h
      case h_2 => cases h
      rename_i t' H2 c2 hv
      obtain ⟨m1, d1, r1⟩ := vcode_does hcall hmix none m _ _ _ _ _ _ _ _ _ _ hv
      obtain ⟨m2, d2, r2⟩ := ih _ _ _ _ _ _ _ h
      refine ⟨fun z => m1 (m2 z), fun i hi => d2 i (d1 i hi), fun z n0 A w0 β a w hR => wpIn_seq (wpIn_mono (r1 (m2 z) (fun l hl => by cases hl) n0 A w0 β a w hR) ?_)⟩
      rintro e a' w' ⟨rfl, β', hb, hR'⟩
      refine wpIn_mono (r2 z n0 A w0 β' a' w' hR') ?_
      rintro e a'' w'' ⟨rfl, β'', hb', hd, hR''⟩
      exact ⟨rfl, β'', fun i hi => (hb' i (d1 i hi)).trans (hb i hi), hd, hR''⟩
end

/-- A function that ends so. -/
def runP (P : Program) (f : Nat) (args : Array Value) (H : Hp) (orc : List (Option Bool)) (ans : List (Nat × Res)) (bls : List (Nat × Res × Hp)) : Option (Res × Hp × List Prop) :=
  match P.funcs[f]? with
  | some fc =>
    match fc.body with
    | some body => (vpan P (vfun P (smB P) 300 19) 300 300 body (frame0 fc args) H (ctl2 2000 orc ans bls)).map fun x => (.pan x.1, x.2.1.filter (fun e => domB H e.1), x.2.2.obl.reverse)
    | none => none
  | none => none
theorem runP_calls {P : Program} (hmix : P.follows .mixedOrders = true) {f : Nat} {args : Array Value} {H : Hp} {orc : List (Option Bool)} {ans : List (Nat × Res)} {bls : List (Nat × Res × Hp)} {r : Res} {H' : Hp} {obl : List Prop}
    (h : runP P f args H orc ans bls = some (r, H', obl)) (ho : AllP obl) (ha : wfA (domB H) args = true) (hc : closedH H' = true) : CallsV P (.func f) args H r H' := by
  unfold runP at h
  split at h
  case h_2 => cases h
  rename_i fc hf
  split at h
  case h_2 => cases h
  rename_i body hb
  rw [Option.map_eq_some_iff] at h
  obtain ⟨⟨ch, H1, c'⟩, h1, h2⟩ := h
  simp only [Prod.mk.injEq] at h2
  obtain ⟨rfl, rfl, rfl⟩ := h2
  obtain ⟨m1, d1, r1⟩ := vpan_spec (vfun_ok (smB_ok P) hmix 300 19) hmix 300 300 body _ _ _ _ _ _ h1
  intro β w hR
  refine (callsIn_wide (n := 0)).1 (callsIn_of_wp_marks hf hb trivial (wpIn_mono (r1 ((allP_reverse _).1 ho) 0 (rng β H) w β _ w (frame0_rel hR ha)) ?_))
  rintro e a' w' ⟨rfl, β', hb', hd, hR'⟩
  have hfin : LeavesInM Fence.wide 0 P fc a'.tmps (fun e w' => ∃ β', (∀ i, domB H i = true → β' i = β i) ∧ e = (Res.pan ch).out β' ∧ Rel (rng β H) w β' (H1.filter fun e => domB H e.1) w') a'.defers (.panicking ch) w' := by
    rw [hd]
    refine ⟨β', hb', rfl, hR'.part (fun i o hi => ?_) hc⟩
    rw [look_filter (fun k => domB H k)] at hi
    split at hi
    · exact hi
    · cases hi
  exact hfin

end Go.Proofs.Ytpbhoamojocbpaa
