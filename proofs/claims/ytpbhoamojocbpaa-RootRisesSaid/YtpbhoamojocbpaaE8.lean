/- A walk by computation: whatever order a region draws, what comes is as in the order of the text. -/
import Derived.Test.YtpbhoamojocbpaaE7
namespace Go.Proofs.Ytpbhoamojocbpaa
open Go Go.RowKit
set_option linter.unusedSimpArgs false
set_option linter.unusedVariables false

theorem foldH_congr (L L' : Nat → Bool) : ∀ (l : List Stp) (H : Hp), (∀ e ∈ l, L e.i = L' e.i) → foldH l L H = foldH l L' H
  | [], _, _ => rfl
  | e :: r, H, h => by
    rw [foldH, foldH, h e List.mem_cons_self, foldH_congr L L' r _ (fun e he => h e (List.mem_cons_of_mem _ he))]

section
variable {P : Program} {ops : Array Oper}

theorem drawOK_order {H : Hp} {l : List Stp} (h : drawOK ops H l = true) {e s : Stp} (he : e ∈ l) (hs : s ∈ l) (hne : e.i ≠ s.i) (hc : confl ops e s = true) :
    if s.i < e.i then beforeB ops 8 s.i e.i = true else beforeB ops 8 e.i s.i = true := by
  unfold drawOK at h
  simp only [Bool.and_eq_true] at h
  have h2 := List.all_eq_true.1 (List.all_eq_true.1 h.1.2 e he) s hs
  rw [hc, beq_eq_false_iff_ne.2 hne] at h2
  simp only [Bool.false_or, Bool.not_true] at h2
  split at h2 <;> rename_i hlt
  · rw [if_pos hlt]; exact h2
  · rw [if_neg hlt]; exact h2

/-- Of two that are at odds, the one ahead in the text has come, the one behind has not. -/
theorem odds {H : Hp} {l : List Stp} (hok : drawOK ops H l = true) (hops : ∀ e ∈ l, ops[e.i]? = some e.o) {L : Nat → Bool} (hD : Down ops L) {e s : Stp} (he : e ∈ l) (hs : s ∈ l)
    (hLe : L e.i = false) (hall : ∀ x ∈ e.o.after, Region.binds .any x = true → L x.on = true) (hc : confl ops e s = true) : L s.i = decide (s.i < e.i) := by
  by_cases hne : e.i = s.i
  · rw [← hne, hLe]; simp
  · have h := drawOK_order hok he hs hne hc
    by_cases hlt : s.i < e.i
    · rw [if_pos hlt] at h
      rw [beforeB_down hD 8 s.i e.i e.o (hops e he) hall h]
      simp [hlt]
    · rw [if_neg hlt] at h
      rw [decide_eq_false hlt]
      cases hL : L s.i with
      | false => rfl
      | true =>
        have := beforeB_down hD 8 e.i s.i s.o (hops s hs) (hD s.i s.o hL (hops s hs)) h
        rw [hLe] at this
        cases this

theorem vsteps_draw {call : CallF} (hcall : CallOK P call) {ro : Option Nat} {n : Nat} {Q : Exit → Act → World → Prop} {t : List Value} {D : List VDef} {H : Hp} {c : Ctl} {l : List Stp} {t' : List Value} {D' : List VDef} {H' : Hp} {c' : Ctl}
    (h : vsteps P call ops (List.range ops.size) t D H c = some (l, .go t' D' H' c')) (hok : drawOK ops H l = true) (hobl : AllP c'.obl)
    (A : Nat → Prop) (w0 : World) (β : Nat → Nat) (a : Act) (w : World) (hR : RelA A w0 β D t H a w)
    (hQ : ∀ β' a' w', (∀ i, domB H i = true → β' i = β i) → RelA A w0 β' D' t' H' a' w' → Q .normal a' w') :
    wpAnyIn (Fw ro) n P .any ops Q ops.size (Array.replicate ops.size false) a w := by
  obtain ⟨-, hidx, hDD, hpn, ht', hH', hst⟩ := vsteps_spec hcall (List.range ops.size) t D H c l t' D' H' c' List.pairwise_lt_range h
  have hops : ∀ e ∈ l, ops[e.i]? = some e.o := fun e he => (hst e he).1
  have hsort : l.Pairwise (fun a b => a.i < b.i) := by
    have := List.pairwise_lt_range (n := ops.size)
    rw [← hidx] at this
    exact List.pairwise_map.1 this
  have hok2 := hok
  unfold drawOK at hok2
  simp only [Bool.and_eq_true] at hok2
  have hnod : ∀ e ∈ l, e.m.dfr.isSome = false := fun e he => by
    have := List.all_eq_true.1 hok2.1.1.1 e he
    cases hx : e.m.dfr with
    | none => rfl
    | some d => rw [hx] at this; cases this
  have hDe := hDD hnod
  have hfind : ∀ i, i < ops.size → ∃ e ∈ l, e.i = i := fun i hi => by
    have : i ∈ l.map (·.i) := by rw [hidx]; exact List.mem_range.2 hi
    obtain ⟨e, he, rfl⟩ := List.mem_map.1 this
    exact ⟨e, he, rfl⟩
  refine wpAny_inv (fun L a w => ∃ β', (∀ i, domB H i = true → β' i = β i) ∧ RelA A w0 β' D (foldT l L t) (foldH l L H) a w) ?_ (fun _ _ _ _ _ h => h) ?_ ?_ ops.size _ (fun _ => false) a w (by simp) (fun i => by
      by_cases hi : i < ops.size <;> simp [hi]) (fun _ _ h => (by cases h)) ?_ (Nat.le_trans (List.length_filter_le _ _) (by simp))
  · rintro L a w i o hD ⟨β', hext, hRL⟩ hLi ho hall
    obtain ⟨e, he, rfl⟩ := hfind i (Array.getElem?_eq_some_iff.1 ho).1
    obtain ⟨ho', hdo, hsub, hfr⟩ := hst e he
    rw [ho] at ho'
    cases ho'
    have hodds : ∀ s ∈ l, confl ops e s = true → L s.i = decide (s.i < e.i) := fun s hs hc => odds hok hops hD he hs hLi hall hc
    have hlook : ∀ k, k ∈ keys e.r ++ keys e.m.set → look (foldH l L H) k = look (foldH l (fun k => decide (k < e.i)) H) k := fun k hk =>
      foldH_look k _ _ l H H rfl (fun s hs hne => by
        cases hx : domB s.m.set k with
        | false => rfl
        | true =>
          refine absurd (hodds s hs ?_) hne
          unfold confl
          rw [hits_of (keys_dom hx) hk, Bool.or_true])
    refine hdo hobl ro n Q _ A w0 β' D _ _ a w e.i ho hRL (fun x hx => ?_) (fun k ob hk => ?_) (fun k hk => ?_) ?_ (fun hd => (by rw [hnod e he] at hd; cases hd)) (fun _ β'' a' w' hb hR' => ?_) (fun ch hch => (by rw [hpn e he] at hch; cases hch))
    · refine foldT_get x _ _ l t t rfl rfl (fun s hs hne hd => hne (hodds s hs ?_))
      unfold confl
      have : (e.o.looksAt ops).contains x = true := by simpa using hx
      simp [hd, hx]
    · rw [hlook k (List.mem_append_left _ (keys_dom (domB_of hk)))]
      exact hsub k ob hk
    · rcases hfr k hk with h1 | h1
      · exact .inl h1
      · right
        unfold domB at h1 ⊢
        rw [hlook k (List.mem_append_right _ (keys_dom hk))]
        exact h1
    · have h3 := List.all_eq_true.1 hok2.2 e he
      refine wfV_mono (fun k hk => ?_) _ h3
      rw [domB_merge, Bool.or_eq_true]
      simp only [Bool.or_eq_true, List.any_eq_true, Bool.and_eq_true] at hk
      rcases hk with (hk | hk) | ⟨s, hs, hk, hbf⟩
      · exact .inl hk
      · exact .inr (foldH_dom k L l H hk)
      · exact .inr (foldH_dom_of k L s (beforeB_down hD 8 s.i e.i e.o ho hall hbf) hk l H hs)
    · refine ⟨β'', fun i hi => by rw [hb i (foldH_dom i L l H hi), hext i hi], ?_⟩
      have hne : l.Pairwise (fun a b => a.i ≠ b.i) := hsort.imp (fun h => Nat.ne_of_lt h)
      have later : ∀ s ∈ l, e.i < s.i → L s.i = true → confl ops s e = true → False := fun s hs hlt hL hc => by
        have h := drawOK_order hok hs he (Ne.symm (Nat.ne_of_lt hlt)) hc
        rw [if_pos hlt] at h
        have := beforeB_down hD 8 e.i s.i s.o (hops s hs) (hD s.i s.o hL (hops s hs)) h
        rw [hLi] at this
        cases this
      rw [foldT_add L e hLi l t hne he (fun s hs hlt hL x hx hd => later s hs hlt hL (by unfold confl; simp [hx, hd])) hsort]
      have hlk : ∀ k, look (foldH l (addL L e.i) H) k = look (merge e.m.set (foldH l L H)) k := fun k =>
        foldH_add k L e hLi l H hsort he (fun s hs hlt hL hx => by
          cases hx2 : domB s.m.set k with
          | false => rfl
          | true =>
            refine (later s hs hlt hL ?_).elim
            unfold confl
            rw [hits_of (keys_dom hx) (List.mem_append_right _ (keys_dom hx2)), Bool.or_true])
      have hd : ∀ k, domB (foldH l (addL L e.i) H) k = domB (merge e.m.set (foldH l L H)) k := fun k => by unfold domB; rw [hlk]
      have hdn : dadd e.m.dfr D = D := by
        cases hx : e.m.dfr with
        | none => rfl
        | some d => have := hnod e he; rw [hx] at this; cases this
      rw [hdn] at hR'
      exact ⟨hR'.tm, hR'.df, wfL_mono (fun k hk => by rw [hd]; exact hk) _ hR'.wt, wfDs_mono (fun k hk => by rw [hd]; exact hk) hR'.wd, hR'.rel.congr (fun _ _ => rfl) hlk⟩
  · intro k o ho x hx hb
    obtain ⟨e, he, rfl⟩ := hfind k (Array.getElem?_eq_some_iff.1 ho).1
    have := hops e he
    rw [ho] at this
    cases this
    have h1 := List.all_eq_true.1 (List.all_eq_true.1 hok2.1.1.2 e he) x (by simpa using hx)
    rw [hb] at h1
    simpa using h1
  · rintro L a w ⟨β', hext, hRL⟩ hall
    have hL : ∀ e ∈ l, L e.i = true := fun e he => hall e.i (Array.getElem?_eq_some_iff.1 (hops e he)).1
    rw [foldT_congr L (fun _ => true) l t hL, foldH_congr L (fun _ => true) l H hL, ← ht' hobl, ← hH', ← hDe] at hRL
    exact hQ β' a w hext hRL
  · have z1 : ∀ (l : List Stp) (t : List Value), foldT l (fun _ => false) t = t := by
      intro l
      induction l with
      | nil => intro t; rfl
      | cons e r ih => intro t; rw [foldT]; exact ih _
    have z2 : ∀ (l : List Stp) (t : Hp), foldH l (fun _ => false) t = t := by
      intro l
      induction l with
      | nil => intro t; rfl
      | cons e r ih => intro t; rw [foldH]; exact ih _
    exact ⟨β, fun _ _ => rfl, by rw [z1, z2]; exact hR⟩

/-- A panic in a region that draws its order: what else may come ahead of it leaves the blocks alone. -/
def panOK (ops : Array Oper) (D : List VDef) (l : List Stp) : Bool :=
  D.isEmpty && (match l.getLast? with
    | some p => (l.all fun e => e.i == p.i || e.m.set.isEmpty) && (List.range ops.size).all fun k => decide (k ≤ p.i) || beforeB ops 8 p.i k && (match ops[k]? with | some o => o.after.toList.all fun x => !Region.binds .any x || decide (x.on < k) | none => true)
    | none => false)
theorem foldH_none (L : Nat → Bool) : ∀ (l : List Stp) (H : Hp), (∀ e ∈ l, L e.i = true → e.m.set = []) → ∀ x, look (foldH l L H) x = look H x
  | [], _, _, _ => rfl
  | e :: r, H, h, x => by
    rw [foldH, foldH_none L r _ (fun e he => h e (List.mem_cons_of_mem _ he))]
    by_cases hL : L e.i = true
    · rw [if_pos hL, h e List.mem_cons_self hL, merge_nil]
    · rw [if_neg hL]
theorem vsteps_drawP {call : CallF} (hcall : CallOK P call) {ro : Option Nat} {n : Nat} {Q : Exit → Act → World → Prop} {t : List Value} {D : List VDef} {H : Hp} {c : Ctl} {l : List Stp} {ch : List PanicEntry} {t' : List Value} {D' : List VDef} {H' : Hp} {c' : Ctl}
    (h : vsteps P call ops (List.range ops.size) t D H c = some (l, .pan ch t' D' H' c')) (hok : drawOK ops H l = true) (hpk : panOK ops D l = true) (hobl : AllP c'.obl)
    (A : Nat → Prop) (w0 : World) (β : Nat → Nat) (a : Act) (w : World) (hR : RelA A w0 β D t H a w)
    (hQ : ∀ t2 β' a' w', (D' = [] ∨ t2 = t') → (∀ i, domB H i = true → β' i = β i) → RelA A w0 β' D' t2 H' a' w' → Q (.panic ch) a' w') :
    wpAnyIn (Fw ro) n P .any ops Q ops.size (Array.replicate ops.size false) a w := by
  obtain ⟨-, ⟨rest, hidx⟩, hDD, ⟨l0, p, hl, hpp, hpn⟩, hH', hst⟩ := vsteps_specP hcall (List.range ops.size) t D H c l ch t' D' H' c' List.pairwise_lt_range h
  have hops : ∀ e ∈ l, ops[e.i]? = some e.o := fun e he => (hst e he).1
  have hsort : l.Pairwise (fun a b => a.i < b.i) := by
    have := List.pairwise_lt_range (n := ops.size)
    rw [hidx] at this
    exact List.pairwise_map.1 (List.pairwise_append.1 this).1
  have hok2 := hok
  unfold drawOK at hok2
  simp only [Bool.and_eq_true] at hok2
  have hnod : ∀ e ∈ l, e.m.dfr.isSome = false := fun e he => by
    have := List.all_eq_true.1 hok2.1.1.1 e he
    cases hx : e.m.dfr with
    | none => rfl
    | some d => rw [hx] at this; cases this
  have hDe := hDD hnod
  have hpl : p ∈ l := by rw [hl]; simp
  unfold panOK at hpk
  have hlast : l.getLast? = some p := by rw [hl]; simp
  rw [hlast] at hpk
  simp only [Bool.and_eq_true] at hpk
  obtain ⟨hD0, hset0, hafter0⟩ := hpk
  have hD1 : D = [] := List.isEmpty_iff.1 hD0
  have hset : ∀ e ∈ l, e.i ≠ p.i → e.m.set = [] := fun e he hne => by
    have := List.all_eq_true.1 hset0 e he
    rw [beq_eq_false_iff_ne.2 hne, Bool.false_or] at this
    exact List.isEmpty_iff.1 this
  have hafter : ∀ k, k < ops.size → p.i < k → beforeB ops 8 p.i k = true := fun k hk hlt => by
    have := List.all_eq_true.1 hafter0 k (List.mem_range.2 hk)
    rw [decide_eq_false (by omega), Bool.false_or, Bool.and_eq_true] at this
    exact this.1
  have hlow : ∀ (k : Nat) (o : Oper), ops[k]? = some o → ¬ k ≤ p.i → ∀ x ∈ o.after, Region.binds .any x = true → x.on < k := fun k o ho hlt x hx hb => by
    have := List.all_eq_true.1 hafter0 k (List.mem_range.2 (Array.getElem?_eq_some_iff.1 ho).1)
    rw [decide_eq_false hlt, Bool.false_or, Bool.and_eq_true, ho] at this
    have h1 := List.all_eq_true.1 this.2 x (by simpa using hx)
    rw [hb] at h1
    simpa using h1
  have hplast : ∀ e ∈ l, e.i ≤ p.i := fun e he => by
    rw [hl] at he hsort
    rcases List.mem_append.1 he with he | he
    · exact Nat.le_of_lt ((List.pairwise_append.1 hsort).2.2 e he p (by simp))
    · rw [List.mem_singleton] at he; rw [he]; exact Nat.le_refl _
  have hlen : ∀ i, i < ops.size → i ≤ p.i → ∃ e ∈ l, e.i = i := fun i hi hle => by
    have hm : i ∈ List.range ops.size := List.mem_range.2 hi
    have hw := List.pairwise_lt_range (n := ops.size)
    rw [hidx] at hm hw
    rcases List.mem_append.1 hm with hm | hm
    · obtain ⟨e, he, rfl⟩ := List.mem_map.1 hm
      exact ⟨e, he, rfl⟩
    · have := (List.pairwise_append.1 hw).2.2 p.i (List.mem_map_of_mem hpl) i hm
      omega
  have hpanL0 : ∀ e ∈ l, e.i ≠ p.i → e.m.pan = none := fun e he hne => by
    rw [hl] at he
    rcases List.mem_append.1 he with he | he
    · exact hpn e he
    · rw [List.mem_singleton] at he; rw [he] at hne; exact absurd rfl hne
  have hinj : ∀ e ∈ l, ∀ s ∈ l, e.i = s.i → e = s := by
    have key : ∀ (l : List Stp), l.Pairwise (fun a b => a.i < b.i) → ∀ e ∈ l, ∀ s ∈ l, e.i = s.i → e = s := by
      intro l
      induction l with
      | nil => intro _ e he; cases he
      | cons x r ih =>
        intro hp e he s hs heq
        have hp2 := List.pairwise_cons.1 hp
        rcases List.mem_cons.1 he with he1 | he1 <;> rcases List.mem_cons.1 hs with hs1 | hs1
        · rw [he1, hs1]
        · have := hp2.1 s hs1; rw [he1] at heq; omega
        · have := hp2.1 e he1; rw [hs1] at heq; omega
        · exact ih hp2.2 e he1 s hs1 heq
    exact key l hsort
  refine wpAny_inv (fun L a w => L p.i = false ∧ (∀ e ∈ l, L e.i = true → e.i ≠ p.i) ∧ ∃ β', (∀ i, domB H i = true → β' i = β i) ∧ RelA A w0 β' D (foldT l L t) (foldH l L H) a w) ?_ (fun _ _ _ _ _ h => h) ?_ ?_ ops.size _ (fun _ => false) a w (by simp) (fun i => by
      by_cases hi : i < ops.size <;> simp [hi]) (fun _ _ h => (by cases h)) ?_ (Nat.le_trans (List.length_filter_le _ _) (by simp))
  · rintro L a w i o hD ⟨hLp, hLn, β', hext, hRL⟩ hLi ho hall
    have hisz := (Array.getElem?_eq_some_iff.1 ho).1
    by_cases hle : i ≤ p.i
    case neg =>
      have := beforeB_down hD 8 p.i i o ho hall (hafter i hisz (by omega))
      rw [hLp] at this
      cases this
    obtain ⟨e, he, rfl⟩ := hlen i hisz hle
    obtain ⟨ho', hdo, hsub, hfr⟩ := hst e he
    rw [ho] at ho'
    cases ho'
    have hodds : ∀ s ∈ l, confl ops e s = true → L s.i = decide (s.i < e.i) := fun s hs hc => odds hok hops hD he hs hLi hall hc
    have hlook : ∀ k, k ∈ keys e.r ++ keys e.m.set → look (foldH l L H) k = look (foldH l (fun k => decide (k < e.i)) H) k := fun k hk =>
      foldH_look k _ _ l H H rfl (fun s hs hne => by
        cases hx : domB s.m.set k with
        | false => rfl
        | true =>
          refine absurd (hodds s hs ?_) hne
          unfold confl
          rw [hits_of (keys_dom hx) hk, Bool.or_true])
    refine hdo hobl ro n Q _ A w0 β' D _ _ a w e.i ho hRL (fun x hx => ?_) (fun k ob hk => ?_) (fun k hk => ?_) ?_ (fun hd => (by rw [hnod e he] at hd; cases hd)) (fun hpnone β'' a' w' hb hR' => ?_) (fun ch' hch β'' a' w' hb hR' => ?_)
    · refine foldT_get x _ _ l t t rfl rfl (fun s hs hne hd => hne (hodds s hs ?_))
      unfold confl
      have : (e.o.looksAt ops).contains x = true := by simpa using hx
      simp [hd, hx]
    · rw [hlook k (List.mem_append_left _ (keys_dom (domB_of hk)))]
      exact hsub k ob hk
    · rcases hfr k hk with h1 | h1
      · exact .inl h1
      · right
        unfold domB at h1 ⊢
        rw [hlook k (List.mem_append_right _ (keys_dom hk))]
        exact h1
    · have h3 := List.all_eq_true.1 hok2.2 e he
      refine wfV_mono (fun k hk => ?_) _ h3
      rw [domB_merge, Bool.or_eq_true]
      simp only [Bool.or_eq_true, List.any_eq_true, Bool.and_eq_true] at hk
      rcases hk with (hk | hk) | ⟨s, hs, hk, hbf⟩
      · exact .inl hk
      · exact .inr (foldH_dom k L l H hk)
      · exact .inr (foldH_dom_of k L s (beforeB_down hD 8 s.i e.i e.o ho hall hbf) hk l H hs)
    · have hnep : e.i ≠ p.i := fun heq => by
        have := hinj e he p hpl heq
        subst this
        rw [hpp] at hpnone
        cases hpnone
      refine ⟨?_, ?_, β'', fun i hi => by rw [hb i (foldH_dom i L l H hi), hext i hi], ?_⟩
      · simp only [addL]; rw [beq_eq_false_iff_ne.2 (fun h => hnep h.symm), hLp]; rfl
      · intro s hs hL heq
        simp only [addL, Bool.or_eq_true, beq_iff_eq] at hL
        rcases hL with hL | hL
        · exact hnep (by rw [← hL, heq])
        · rw [heq, hLp] at hL; cases hL
      have hne : l.Pairwise (fun a b => a.i ≠ b.i) := hsort.imp (fun h => Nat.ne_of_lt h)
      have later : ∀ s ∈ l, e.i < s.i → L s.i = true → confl ops s e = true → False := fun s hs hlt hL hc => by
        have h := drawOK_order hok hs he (Ne.symm (Nat.ne_of_lt hlt)) hc
        rw [if_pos hlt] at h
        have := beforeB_down hD 8 e.i s.i s.o (hops s hs) (hD s.i s.o hL (hops s hs)) h
        rw [hLi] at this
        cases this
      rw [foldT_add L e hLi l t hne he (fun s hs hlt hL x hx hd => later s hs hlt hL (by unfold confl; simp [hx, hd])) hsort]
      have hlk : ∀ k, look (foldH l (addL L e.i) H) k = look (merge e.m.set (foldH l L H)) k := fun k =>
        foldH_add k L e hLi l H hsort he (fun s hs hlt hL hx => by
          cases hx2 : domB s.m.set k with
          | false => rfl
          | true =>
            refine (later s hs hlt hL ?_).elim
            unfold confl
            rw [hits_of (keys_dom hx) (List.mem_append_right _ (keys_dom hx2)), Bool.or_true])
      have hd : ∀ k, domB (foldH l (addL L e.i) H) k = domB (merge e.m.set (foldH l L H)) k := fun k => by unfold domB; rw [hlk]
      have hdn : dadd e.m.dfr D = D := by
        cases hx : e.m.dfr with
        | none => rfl
        | some d => have := hnod e he; rw [hx] at this; cases this
      rw [hdn] at hR'
      exact ⟨hR'.tm, hR'.df, wfL_mono (fun k hk => by rw [hd]; exact hk) _ hR'.wt, wfDs_mono (fun k hk => by rw [hd]; exact hk) hR'.wd, hR'.rel.congr (fun _ _ => rfl) hlk⟩
    · have heq : e.i = p.i := by
        by_cases hne : e.i = p.i
        · exact hne
        · have := hpanL0 e he hne
          rw [hch] at this
          cases this
      have hep := hinj e he p hpl heq
      subst hep
      rw [hpp] at hch
      cases hch
      have hlk : ∀ x, look H' x = look (merge e.m.set (foldH l L H)) x := fun x => by
        have h1 : ∀ y, look (foldH l0 (fun _ => true) H) y = look H y := foldH_none _ l0 H (fun s hs _ => by
          refine hset s (by rw [hl]; exact List.mem_append_left _ hs) (fun heq => ?_)
          rw [hl] at hsort
          have := (List.pairwise_append.1 hsort).2.2 s hs e (by simp)
          omega)
        have h2 := foldH_none L l H (fun s hs hL => hset s hs (hLn s hs hL))
        have h3 : ∀ (l0 : List Stp) (H : Hp), foldH (l0 ++ [e]) (fun _ => true) H = merge e.m.set (foldH l0 (fun _ => true) H) := by
          intro l0
          induction l0 with
          | nil => intro H; rfl
          | cons s r ih => intro H; rw [List.cons_append, foldH, foldH]; exact ih _
        rw [hH', hl, h3, look_merge, look_merge, h1, ← hl, h2]
      have hd : ∀ k, domB H' k = domB (merge e.m.set (foldH l L H)) k := fun k => by unfold domB; rw [hlk]
      subst hDe
      exact hQ (foldT l L t) β'' a' w' (.inl hD1) (fun i hi => by rw [hb i (foldH_dom i L l H hi), hext i hi])
        ⟨hR'.tm, hR'.df, wfL_mono (fun k hk => by rw [hd]; exact hk) _ hR'.wt, wfDs_mono (fun k hk => by rw [hd]; exact hk) hR'.wd, hR'.rel.congr (fun _ _ => rfl) hlk⟩
  · intro k o ho x hx hb
    have hisz := (Array.getElem?_eq_some_iff.1 ho).1
    by_cases hle : k ≤ p.i
    · obtain ⟨e, he, rfl⟩ := hlen k hisz hle
      have := hops e he
      rw [ho] at this
      cases this
      have h1 := List.all_eq_true.1 (List.all_eq_true.1 hok2.1.1.2 e he) x (by simpa using hx)
      rw [hb] at h1
      simpa using h1
    · exact hlow k o ho hle x hx hb
  · rintro L a w ⟨hLp, -⟩ hall
    have hsz := (Array.getElem?_eq_some_iff.1 (hops p hpl)).1
    rw [hall p.i hsz] at hLp
    cases hLp
  · have z1 : ∀ (l : List Stp) (t : List Value), foldT l (fun _ => false) t = t := by
      intro l
      induction l with
      | nil => intro t; rfl
      | cons e r ih => intro t; rw [foldT]; exact ih _
    have z2 : ∀ (l : List Stp) (t : Hp), foldH l (fun _ => false) t = t := by
      intro l
      induction l with
      | nil => intro t; rfl
      | cons e r ih => intro t; rw [foldH]; exact ih _
    exact ⟨rfl, fun _ _ h => (by cases h), β, fun _ _ => rfl, by rw [z1, z2]; exact hR⟩

/-- A region, in a round of a loop or not. -/
def vregion (P : Program) (call : CallF) (rd : Bool) (ops : Array Oper) (draw : Bool) (t : List Value) (D : List VDef) (H : Hp) (c : Ctl) : Option Out :=
  match vsteps P call ops (List.range ops.size) t D H c with
  | some (l, x) =>
    if rd && l.any (fun e => e.m.dfr.isSome) then none
    else if draw then
      match x with
      | .go _ _ _ _ => if drawOK ops H l then some x else none
      | .pan _ _ _ _ _ => if drawOK ops H l && panOK ops D l then some x else none
    else some x
  | none => none
theorem vregion_spec {call : CallF} (hcall : CallOK P call) {rd : Bool} {draw : Bool} {t : List Value} {D : List VDef} {H : Hp} {c : Ctl} {x : Out} (h : vregion P call rd ops draw t D H c = some x) :
    (AllP x.ctl.obl → AllP c.obl) ∧ (∀ i, domB H i = true → domB x.heap i = true) ∧
    (P.follows .mixedOrders = true → AllP x.ctl.obl → ∀ (ro : Option Nat), (rd = false → ro = none) → ∀ (n id : Nat) (Q : Exit → Act → World → Prop) (A : Nat → Prop) (w0 : World) (β : Nat → Nat) (a : Act) (w : World), RelA A w0 β D t H a w →
      x.post A w0 β H Q → (Code.region id ops draw).wpIn (Fw ro) n P Q a w) := by
  unfold vregion at h
  split at h
  · rename_i l x1 hs
    have hx : x1 = x := by
      split at h
      · cases h
      · split at h
        · split at h
          · split at h
            · simpa using h
            · cases h
          · split at h
            · simpa using h
            · cases h
        · simpa using h
    subst hx
    have htxt := fun (ro : Option Nat) (n : Nat) (Q : Exit → Act → World → Prop) => vsteps_text (ro := ro) (n := n) (Q := Q) hcall _ _ _ _ _ _ _ hs
    refine ⟨(htxt none 0 (fun _ _ _ => True)).1, (htxt none 0 (fun _ _ _ => True)).2.1, fun hmix hobl ro hro n id Q A w0 β a w hR hQ => ?_⟩
    split at h
    · cases h
    · rename_i hrd
      have hdf : ro = none ∨ ∀ e ∈ l, e.m.dfr.isSome = false := by
        cases rd with
        | false => exact .inl (hro rfl)
        | true =>
          right
          intro e he
          cases hd : e.m.dfr.isSome with
          | false => rfl
          | true => exact absurd (by rw [Bool.true_and]; exact List.any_eq_true.2 ⟨e, he, hd⟩) hrd
      split at h
      · rename_i hdraw
        subst hdraw
        split at h
        · rename_i t' D' H' c'
          split at h
          · rename_i hok
            refine wpIn_region_any hmix ?_
            exact vsteps_draw hcall hs hok hobl A w0 β a w.drew ⟨hR.tm, hR.df, hR.wt, hR.wd, hR.rel.drew⟩ hQ
          · cases h
        · rename_i ch t' D' H' c'
          split at h
          · rename_i hok
            rw [Bool.and_eq_true] at hok
            refine wpIn_region_any hmix ?_
            exact vsteps_drawP hcall hs hok.1 hok.2 hobl A w0 β a w.drew ⟨hR.tm, hR.df, hR.wt, hR.wd, hR.rel.drew⟩ hQ
          · cases h
      · rename_i hdraw
        have : draw = false := by simpa using hdraw
        subst this
        exact wpIn_region ((htxt ro n Q).2.2 hobl hdf A w0 β a w hR hQ)
  · cases h
end

end Go.Proofs.Ytpbhoamojocbpaa
