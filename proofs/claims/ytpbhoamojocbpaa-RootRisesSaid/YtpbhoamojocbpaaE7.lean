/- A walk by computation: a region that draws its order. -/
import Derived.Test.YtpbhoamojocbpaaE6
namespace Go.Proofs.Ytpbhoamojocbpaa
open Go Go.RowKit
set_option linter.unusedSimpArgs false
set_option linter.unusedVariables false

/-- What those of L make, in the order of the text. -/
def foldT : List Stp → (Nat → Bool) → List Value → List Value
  | [], _, t => t
  | e :: r, L, t => foldT r L (if L e.i then vput t e.o.dst e.m.val else t)
def foldH : List Stp → (Nat → Bool) → Hp → Hp
  | [], _, H => H
  | e :: r, L, H => foldH r L (if L e.i then merge e.m.set H else H)

theorem vput_length (t : List Value) (d : Option Tmp) (v : Value) : (vput t d v).length = t.length := by
  cases d with
  | none => rfl
  | some d => simp [vput]
theorem vput_get_ne {t : List Value} {d : Option Tmp} {v : Value} {x : Nat} (h : d ≠ some x) : (vput t d v)[x]? = t[x]? := by
  cases d with
  | none => rfl
  | some d => exact List.getElem?_set_ne (fun e => h (by rw [e]))
theorem vput_same {t t' : List Value} {d : Option Tmp} {v : Value} {x : Nat} (hl : t.length = t'.length) (h : t[x]? = t'[x]?) : (vput t d v)[x]? = (vput t' d v)[x]? := by
  cases d with
  | none => exact h
  | some d =>
    simp only [vput, List.getElem?_set, hl, h]
theorem foldT_length : ∀ (l : List Stp) (L : Nat → Bool) (t : List Value), (foldT l L t).length = t.length
  | [], _, _ => rfl
  | e :: r, L, t => by
    rw [foldT, foldT_length r]
    split
    · exact vput_length _ _ _
    · rfl
theorem foldT_get (x : Nat) (L L' : Nat → Bool) : ∀ (l : List Stp) (t t' : List Value), t.length = t'.length → t[x]? = t'[x]? → (∀ e ∈ l, L e.i ≠ L' e.i → e.o.dst ≠ some x) → (foldT l L t)[x]? = (foldT l L' t')[x]?
  | [], _, _, _, h, _ => h
  | e :: r, t, t', hl, h, hd => by
    rw [foldT, foldT]
    have hr : ∀ e ∈ r, L e.i ≠ L' e.i → e.o.dst ≠ some x := fun e he => hd e (List.mem_cons_of_mem _ he)
    by_cases h1 : L e.i = true <;> by_cases h2 : L' e.i = true
    · rw [if_pos h1, if_pos h2]
      exact foldT_get x L L' r _ _ (by rw [vput_length, vput_length, hl]) (vput_same hl h) hr
    · rw [if_pos h1, if_neg h2]
      refine foldT_get x L L' r _ _ (by rw [vput_length, hl]) ?_ hr
      rw [vput_get_ne (hd e List.mem_cons_self (by rw [h1]; exact fun e => h2 e.symm)), h]
    · rw [if_neg h1, if_pos h2]
      refine foldT_get x L L' r _ _ (by rw [vput_length, hl]) ?_ hr
      rw [vput_get_ne (hd e List.mem_cons_self (by rw [h2]; exact h1)), h]
    · rw [if_neg h1, if_neg h2]
      exact foldT_get x L L' r _ _ hl h hr
theorem foldH_look (x : Nat) (L L' : Nat → Bool) : ∀ (l : List Stp) (H H' : Hp), look H x = look H' x → (∀ e ∈ l, L e.i ≠ L' e.i → domB e.m.set x = false) → look (foldH l L H) x = look (foldH l L' H') x
  | [], _, _, h, _ => h
  | e :: r, H, H', h, hd => by
    rw [foldH, foldH]
    have hr : ∀ e ∈ r, L e.i ≠ L' e.i → domB e.m.set x = false := fun e he => hd e (List.mem_cons_of_mem _ he)
    have hno : domB e.m.set x = false → ∀ G, look (merge e.m.set G) x = look G x := fun hx G => by
      rw [look_merge]
      have : look e.m.set x = none := by unfold domB at hx; simpa using hx
      rw [this]
    by_cases h1 : L e.i = true <;> by_cases h2 : L' e.i = true
    · rw [if_pos h1, if_pos h2]
      exact foldH_look x L L' r _ _ (by rw [look_merge, look_merge, h]) hr
    · rw [if_pos h1, if_neg h2]
      exact foldH_look x L L' r _ _ (by rw [hno (hd e List.mem_cons_self (by rw [h1]; exact fun e => h2 e.symm)), h]) hr
    · rw [if_neg h1, if_pos h2]
      exact foldH_look x L L' r _ _ (by rw [hno (hd e List.mem_cons_self (by rw [h2]; exact h1)), h]) hr
    · rw [if_neg h1, if_neg h2]
      exact foldH_look x L L' r _ _ h hr
theorem foldH_dom (x : Nat) (L : Nat → Bool) : ∀ (l : List Stp) (H : Hp), domB H x = true → domB (foldH l L H) x = true
  | [], _, h => h
  | e :: r, H, h => by
    rw [foldH]
    refine foldH_dom x L r _ ?_
    split
    · rw [domB_merge, h, Bool.or_true]
    · exact h
theorem foldH_dom_of (x : Nat) (L : Nat → Bool) (e : Stp) (hL : L e.i = true) (hx : domB e.m.set x = true) : ∀ (l : List Stp) (H : Hp), e ∈ l → domB (foldH l L H) x = true := by
  intro l
  induction l with
  | nil => intro H he; cases he
  | cons e0 r ih =>
    intro H he
    rw [foldH]
    rcases List.mem_cons.1 he with rfl | he
    · rw [if_pos hL]
      exact foldH_dom x L r _ (by rw [domB_merge, hx]; rfl)
    · exact ih _ he

def addL (L : Nat → Bool) (i : Nat) (k : Nat) : Bool := k == i || L k
theorem vput_comm (t : List Value) {d d' : Option Tmp} (v v' : Value) (h : ∀ x, d = some x → d' ≠ some x) : vput (vput t d v) d' v' = vput (vput t d' v') d v := by
  cases d with
  | none => rfl
  | some d =>
    cases d' with
    | none => rfl
    | some d' => exact List.set_comm _ _ (fun e => h d rfl (by rw [e]))
theorem foldT_put (L : Nat → Bool) (d : Option Tmp) (v : Value) : ∀ (l : List Stp) (t : List Value), (∀ e ∈ l, L e.i = true → ∀ x, d = some x → e.o.dst ≠ some x) → foldT l L (vput t d v) = vput (foldT l L t) d v
  | [], _, _ => rfl
  | e :: r, t, h => by
    rw [foldT, foldT, ← foldT_put L d v r _ (fun e he => h e (List.mem_cons_of_mem _ he))]
    by_cases h1 : L e.i = true
    · rw [if_pos h1, if_pos h1, vput_comm _ _ _ (h e List.mem_cons_self h1)]
    · rw [if_neg h1, if_neg h1]
theorem foldT_congr (L L' : Nat → Bool) : ∀ (l : List Stp) (t : List Value), (∀ e ∈ l, L e.i = L' e.i) → foldT l L t = foldT l L' t
  | [], _, _ => rfl
  | e :: r, t, h => by
    rw [foldT, foldT, h e List.mem_cons_self, foldT_congr L L' r _ (fun e he => h e (List.mem_cons_of_mem _ he))]
theorem foldT_add (L : Nat → Bool) (s : Stp) (hL : L s.i = false) : ∀ (l : List Stp) (t : List Value), l.Pairwise (fun a b => a.i ≠ b.i) → s ∈ l → (∀ e ∈ l, s.i < e.i → L e.i = true → ∀ x, s.o.dst = some x → e.o.dst ≠ some x) →
    (l.Pairwise (fun a b => a.i < b.i)) → foldT l (addL L s.i) t = vput (foldT l L t) s.o.dst s.m.val
  | e :: r, t, hp, hs, hd, hlt => by
    rw [foldT, foldT]
    rcases List.mem_cons.1 hs with rfl | hs'
    · have h1 : addL L s.i s.i = true := by simp [addL]
      rw [if_pos h1, if_neg (by rw [hL]; decide)]
      have hne : ∀ e ∈ r, s.i < e.i := (List.pairwise_cons.1 hlt).1
      rw [foldT_congr (addL L s.i) L r _ (fun e he => by
        have := hne e he
        simp only [addL]
        rw [beq_eq_false_iff_ne.2 (by omega), Bool.false_or])]
      exact foldT_put L _ _ r t (fun e he hl => hd e (List.mem_cons_of_mem _ he) (hne e he) hl)
    · have hne : e.i ≠ s.i := (List.pairwise_cons.1 hp).1 s hs'
      have h1 : addL L s.i e.i = L e.i := by simp only [addL]; rw [beq_eq_false_iff_ne.2 hne, Bool.false_or]
      rw [h1]
      exact foldT_add L s hL r _ (List.pairwise_cons.1 hp).2 hs' (fun e he => hd e (List.mem_cons_of_mem _ he)) (List.pairwise_cons.1 hlt).2
theorem foldH_add (x : Nat) (L : Nat → Bool) (s : Stp) (hL : L s.i = false) : ∀ (l : List Stp) (H : Hp), l.Pairwise (fun a b => a.i < b.i) → s ∈ l → (∀ e ∈ l, s.i < e.i → L e.i = true → domB s.m.set x = true → domB e.m.set x = false) →
    look (foldH l (addL L s.i) H) x = look (merge s.m.set (foldH l L H)) x
  | e :: r, H, hlt, hs, hd => by
    rw [foldH, foldH]
    rcases List.mem_cons.1 hs with rfl | hs'
    · have h1 : addL L s.i s.i = true := by simp [addL]
      rw [if_pos h1, if_neg (by rw [hL]; decide)]
      have hne : ∀ e ∈ r, s.i < e.i := (List.pairwise_cons.1 hlt).1
      have hL' : ∀ e ∈ r, addL L s.i e.i = L e.i := fun e he => by
        have := hne e he
        simp only [addL]
        rw [beq_eq_false_iff_ne.2 (by omega), Bool.false_or]
      cases hx : domB s.m.set x with
      | false =>
        have hn : look s.m.set x = none := by unfold domB at hx; simpa using hx
        rw [look_merge, hn]
        refine foldH_look x _ _ r _ _ (by rw [look_merge, hn]) (fun e he h => absurd (hL' e he) h)
      | true =>
        have key : ∀ (r : List Stp) (G : Hp), (∀ e ∈ r, addL L s.i e.i = true → domB e.m.set x = false) → look (foldH r (addL L s.i) G) x = look G x := by
          intro r
          induction r with
          | nil => intro G _; rfl
          | cons e r ih =>
            intro G h
            rw [foldH, ih _ (fun e he => h e (List.mem_cons_of_mem _ he))]
            split
            · rename_i h1
              have := h e List.mem_cons_self h1
              rw [look_merge]
              have hn : look e.m.set x = none := by unfold domB at this; simpa using this
              rw [hn]
            · rfl
        rw [key r _ (fun e he h => hd e (List.mem_cons_of_mem _ he) (hne e he) (by rw [hL' e he] at h; exact h) hx)]
        obtain ⟨o, ho⟩ := domB_iff.1 hx
        rw [look_merge, look_merge, ho]
    · have hne : e.i < s.i := (List.pairwise_cons.1 hlt).1 s hs'
      have h1 : addL L s.i e.i = L e.i := by simp only [addL]; rw [beq_eq_false_iff_ne.2 (by omega), Bool.false_or]
      rw [h1]
      exact foldH_add x L s hL r _ (List.pairwise_cons.1 hlt).2 hs' (fun e he => hd e (List.mem_cons_of_mem _ he))

section
variable {P : Program} {ops : Array Oper}
/-- The steps of a region: each from where the text has come to. -/
theorem vsteps_spec {call : CallF} (hcall : CallOK P call) : ∀ (is : List Nat) (t : List Value) (D : List VDef) (H : Hp) (c : Ctl) (l : List Stp) (t' : List Value) (D' : List VDef) (H' : Hp) (c' : Ctl), is.Pairwise (· < ·) → vsteps P call ops is t D H c = some (l, .go t' D' H' c') →
    (AllP c'.obl → AllP c.obl) ∧ l.map (·.i) = is ∧ ((∀ e ∈ l, e.m.dfr.isSome = false) → D' = D) ∧ (∀ e ∈ l, e.m.pan = none) ∧ (AllP c'.obl → t' = foldT l (fun _ => true) t) ∧ H' = foldH l (fun _ => true) H ∧
    (∀ e ∈ l, ops[e.i]? = some e.o ∧ (AllP c'.obl → MicDoes P ops e.o (foldT l (fun k => decide (k < e.i)) t) e.r e.m) ∧ Sub e.r (foldH l (fun k => decide (k < e.i)) H) ∧
      (∀ k, domB e.m.set k = true → domB e.r k = true ∨ domB (foldH l (fun k => decide (k < e.i)) H) k = false)) := by
  intro is
  induction is with
  | nil =>
    intro t D H c l t' D' H' c' _ h
    simp only [vsteps, Option.some.injEq, Prod.mk.injEq, Out.go.injEq] at h
    obtain ⟨rfl, rfl, rfl, rfl, rfl⟩ := h
    exact ⟨id, rfl, fun _ => rfl, fun _ h => (by cases h), fun _ => rfl, rfl, fun _ h => (by cases h)⟩
  | cons i r ih =>
    intro t D H c l t' D' H' c' hp h
    have hp2 := List.pairwise_cons.1 hp
    simp only [vsteps] at h
    split at h
    · cases h
    · rename_i o ho
      split at h
      · cases h
      · rename_i wd t0 c0 hw
        split at h
        · rename_i m Hr c1 hm
          split at h
          · rename_i hv
            split at h
            · simp only [Option.some.injEq, Prod.mk.injEq] at h
              obtain ⟨_, h⟩ := h
              cases h
            rename_i hpn
            split at h
            · rename_i l1 x1 hr
              simp only [Option.some.injEq, Prod.mk.injEq] at h
              obtain ⟨rfl, rfl⟩ := h
              obtain ⟨k1, k2, kd, kp, k3, k4, k5⟩ := ih _ _ _ _ _ _ _ _ _ hp2.2 hr
              obtain ⟨w1, w2⟩ := vwant_does hw
              obtain ⟨d1, d2, d3, d4⟩ := vmic_does (ops := ops) hcall hm
              have hgt : ∀ e ∈ l1, i < e.i := fun e he => hp2.1 e.i (by rw [← k2]; exact List.mem_map_of_mem he)
              have z1 : ∀ (l : List Stp) (t : List Value), (∀ e ∈ l, i < e.i) → foldT l (fun k => decide (k < i)) t = t := by
                intro l
                induction l with
                | nil => intro t _; rfl
                | cons e r ih =>
                  intro t h
                  have := h e List.mem_cons_self
                  rw [foldT, if_neg (by simp; omega)]
                  exact ih _ (fun e he => h e (List.mem_cons_of_mem _ he))
              have z2 : ∀ (l : List Stp) (t : Hp), (∀ e ∈ l, i < e.i) → foldH l (fun k => decide (k < i)) t = t := by
                intro l
                induction l with
                | nil => intro t _; rfl
                | cons e r ih =>
                  intro t h
                  have := h e List.mem_cons_self
                  rw [foldH, if_neg (by simp; omega)]
                  exact ih _ (fun e he => h e (List.mem_cons_of_mem _ he))
              refine ⟨fun x => w1 (d1 (k1 x)), by rw [List.map_cons, k2], fun hx => ?_, fun e he => ?_, fun x => ?_, by rw [foldH]; exact k4, fun e he => ?_⟩
              · have h0 := hx _ List.mem_cons_self
                rw [kd (fun e he => hx e (List.mem_cons_of_mem _ he))]
                cases hm' : m.dfr with
                | none => rfl
                | some d => rw [hm'] at h0; cases h0
              · rcases List.mem_cons.1 he with rfl | he
                · exact hpn
                · exact kp e he
              · have ht := (w2 (d1 (k1 x))).1
                rw [k3 x, ht, foldT]
                rfl
              rcases List.mem_cons.1 he with rfl | he
              · simp only [foldT, foldH]
                rw [if_neg (by simp), if_neg (by simp), z1 l1 t hgt, z2 l1 H hgt]
                refine ⟨ho, fun x => ?_, d2, d3⟩
                obtain ⟨ht, hwant⟩ := w2 (d1 (k1 x))
                rw [ht] at d4
                exact d4 (k1 x) hwant
              · have hlt := hgt e he
                simp only [foldT, foldH]
                rw [if_pos (by simpa using hlt), if_pos (by simpa using hlt)]
                obtain ⟨e1, e2, e3, e4⟩ := k5 e he
                refine ⟨e1, fun x => ?_, e3, e4⟩
                have ht := (w2 (d1 (k1 x))).1
                rw [← ht]
                exact e2 x
            · cases h
          · cases h
        · cases h

/-- .. and those up to a panic. -/
theorem vsteps_specP {call : CallF} (hcall : CallOK P call) : ∀ (is : List Nat) (t : List Value) (D : List VDef) (H : Hp) (c : Ctl) (l : List Stp) (ch : List PanicEntry) (t' : List Value) (D' : List VDef) (H' : Hp) (c' : Ctl), is.Pairwise (· < ·) → vsteps P call ops is t D H c = some (l, .pan ch t' D' H' c') →
    (AllP c'.obl → AllP c.obl) ∧ (∃ rest, is = l.map (·.i) ++ rest) ∧ ((∀ e ∈ l, e.m.dfr.isSome = false) → D' = D) ∧ (∃ l0 p, l = l0 ++ [p] ∧ p.m.pan = some ch ∧ ∀ e ∈ l0, e.m.pan = none) ∧ H' = foldH l (fun _ => true) H ∧
    (∀ e ∈ l, ops[e.i]? = some e.o ∧ (AllP c'.obl → MicDoes P ops e.o (foldT l (fun k => decide (k < e.i)) t) e.r e.m) ∧ Sub e.r (foldH l (fun k => decide (k < e.i)) H) ∧
      (∀ k, domB e.m.set k = true → domB e.r k = true ∨ domB (foldH l (fun k => decide (k < e.i)) H) k = false)) := by
  intro is
  induction is with
  | nil =>
    intro t D H c l ch t' D' H' c' _ h
    simp only [vsteps, Option.some.injEq, Prod.mk.injEq] at h
    obtain ⟨_, h⟩ := h
    cases h
  | cons i r ih =>
    intro t D H c l ch t' D' H' c' hp h
    have hp2 := List.pairwise_cons.1 hp
    simp only [vsteps] at h
    split at h
    · cases h
    · rename_i o ho
      split at h
      · cases h
      · rename_i wd t0 c0 hw
        split at h
        · rename_i m Hr c1 hm
          obtain ⟨w1, w2⟩ := vwant_does hw
          obtain ⟨d1, d2, d3, d4⟩ := vmic_does (ops := ops) hcall hm
          split at h
          · rename_i hv
            split at h
            · rename_i ch1 hpn
              simp only [Option.some.injEq, Prod.mk.injEq, Out.pan.injEq] at h
              obtain ⟨rfl, rfl, rfl, rfl, rfl, rfl⟩ := h
              refine ⟨fun z => w1 (d1 z), ⟨r, rfl⟩, fun _ => rfl, ⟨[], _, rfl, hpn, fun _ h => (by cases h)⟩, rfl, fun e he => ?_⟩
              rw [List.mem_singleton] at he
              subst he
              simp only [foldT, foldH]
              rw [if_neg (by simp), if_neg (by simp)]
              refine ⟨ho, fun x => ?_, d2, d3⟩
              obtain ⟨ht, hwant⟩ := w2 (d1 x)
              rw [ht] at d4
              exact d4 x hwant
            rename_i hpn
            split at h
            · rename_i l1 x1 hr
              simp only [Option.some.injEq, Prod.mk.injEq] at h
              obtain ⟨rfl, rfl⟩ := h
              obtain ⟨k1, ⟨rest, k2⟩, kd, ⟨l0, p, hl0, hpp, kp⟩, k4, k5⟩ := ih _ _ _ _ _ _ _ _ _ _ hp2.2 hr
              have hgt : ∀ e ∈ l1, i < e.i := fun e he => hp2.1 e.i (by rw [k2]; exact List.mem_append_left _ (List.mem_map_of_mem he))
              have z1 : ∀ (l : List Stp) (t : List Value), (∀ e ∈ l, i < e.i) → foldT l (fun k => decide (k < i)) t = t := by
                intro l
                induction l with
                | nil => intro t _; rfl
                | cons e r ih =>
                  intro t h
                  have := h e List.mem_cons_self
                  rw [foldT, if_neg (by simp; omega)]
                  exact ih _ (fun e he => h e (List.mem_cons_of_mem _ he))
              have z2 : ∀ (l : List Stp) (t : Hp), (∀ e ∈ l, i < e.i) → foldH l (fun k => decide (k < i)) t = t := by
                intro l
                induction l with
                | nil => intro t _; rfl
                | cons e r ih =>
                  intro t h
                  have := h e List.mem_cons_self
                  rw [foldH, if_neg (by simp; omega)]
                  exact ih _ (fun e he => h e (List.mem_cons_of_mem _ he))
              refine ⟨fun x => w1 (d1 (k1 x)), ⟨rest, by rw [List.map_cons, k2]; rfl⟩, fun hx => ?_, ⟨⟨i, o, m, Hr⟩ :: l0, p, by rw [hl0]; rfl, hpp, fun e he => ?_⟩, by rw [foldH]; exact k4, fun e he => ?_⟩
              · have h0 := hx _ List.mem_cons_self
                rw [kd (fun e he => hx e (List.mem_cons_of_mem _ he))]
                cases hm' : m.dfr with
                | none => rfl
                | some d => rw [hm'] at h0; cases h0
              · rcases List.mem_cons.1 he with rfl | he
                · exact hpn
                · exact kp e he
              rcases List.mem_cons.1 he with rfl | he
              · simp only [foldT, foldH]
                rw [if_neg (by simp), if_neg (by simp), z1 l1 t hgt, z2 l1 H hgt]
                refine ⟨ho, fun x => ?_, d2, d3⟩
                obtain ⟨ht, hwant⟩ := w2 (d1 (k1 x))
                rw [ht] at d4
                exact d4 (k1 x) hwant
              · have hlt := hgt e he
                simp only [foldT, foldH]
                rw [if_pos (by simpa using hlt), if_pos (by simpa using hlt)]
                obtain ⟨e1, e2, e3, e4⟩ := k5 e he
                refine ⟨e1, fun x => ?_, e3, e4⟩
                have ht := (w2 (d1 (k1 x))).1
                rw [← ht]
                exact e2 x
            · cases h
          · cases h
        · cases h

/-- Is number k ahead of number i, whatever the order? -/
def beforeB (ops : Array Oper) : Nat → Nat → Nat → Bool
  | 0, _, _ => false
  | n + 1, k, i =>
    match ops[i]? with
    | some o => o.after.toList.any fun e => Region.binds .any e && (e.on == k || beforeB ops n k e.on)
    | none => false
def Down (ops : Array Oper) (L : Nat → Bool) : Prop := ∀ (k : Nat) (o : Oper), L k = true → ops[k]? = some o → ∀ e ∈ o.after, Region.binds .any e = true → L e.on = true
theorem beforeB_down {L : Nat → Bool} (hD : Down ops L) : ∀ (n k i : Nat) (o : Oper), ops[i]? = some o → (∀ e ∈ o.after, Region.binds .any e = true → L e.on = true) → beforeB ops n k i = true → L k = true
  | 0, _, _, _, _, _, h => by cases h
  | n + 1, k, i, o, ho, hall, h => by
    simp only [beforeB, ho, List.any_eq_true, Bool.and_eq_true, Bool.or_eq_true, beq_iff_eq] at h
    obtain ⟨e, he, hb, h⟩ := h
    have hL := hall e (by simpa using he) hb
    rcases h with h | h
    · rw [← h]; exact hL
    · cases ho2 : ops[e.on]? with
      | none =>
        cases n with
        | zero => cases h
        | succ n => simp only [beforeB, ho2] at h; cases h
      | some o2 => exact beforeB_down hD n k e.on o2 ho2 (hD e.on o2 hL ho2) h

def hits (a b : List Nat) : Bool := a.any fun x => b.contains x
def keys (H : Hp) : List Nat := H.map (·.1)
theorem keys_dom {H : Hp} {k : Nat} (h : domB H k = true) : k ∈ keys H := by
  induction H with
  | nil => cases h
  | cons e r ih =>
    obtain ⟨j, x⟩ := e
    unfold domB at h
    simp only [look] at h
    by_cases hk : j = k
    · exact List.mem_cons.2 (.inl hk.symm)
    · rw [if_neg hk] at h; exact List.mem_cons_of_mem _ (ih h)
/-- Does e look at, or make, what s makes? -/
def confl (ops : Array Oper) (e s : Stp) : Bool :=
  (match s.o.dst with | some d => (e.o.looksAt ops).contains d || e.o.dst == some d | none => false) || hits (keys s.m.set) (keys e.r ++ keys e.m.set)
def drawOK (ops : Array Oper) (H : Hp) (l : List Stp) : Bool :=
  (l.all fun e => e.m.dfr.isNone) && (l.all fun e => e.o.after.toList.all fun x => !Region.binds .any x || decide (x.on < e.i)) &&
  (l.all fun e => l.all fun s => e.i == s.i || !confl ops e s || (if s.i < e.i then beforeB ops 8 s.i e.i else beforeB ops 8 e.i s.i)) &&
  (l.all fun e => wfV (fun x => domB e.m.set x || domB H x || l.any fun s => domB s.m.set x && beforeB ops 8 s.i e.i) e.m.val)

theorem hits_of {a b : List Nat} {x : Nat} (ha : x ∈ a) (hb : x ∈ b) : hits a b = true :=
  List.any_eq_true.2 ⟨x, ha, by simpa using hb⟩

theorem wpAny_inv {F : Fence} {n : Nat} {Q : Exit → Act → World → Prop} {md : Region.Mode} (Inv : (Nat → Bool) → Act → World → Prop)
    (hstep : ∀ (L : Nat → Bool) (a : Act) (w : World) (i : Nat) (o : Oper), Down ops L → Inv L a w → L i = false → ops[i]? = some o → (∀ e ∈ o.after, Region.binds md e = true → L e.on = true) → wpOpIn F n P ops Q i (Inv (addL L i)) a w)
    (hdown : ∀ (k : Nat) (o : Oper), ops[k]? = some o → ∀ e ∈ o.after, Region.binds .any e = true → Region.binds md e = true)
    (hlow : ∀ (k : Nat) (o : Oper), ops[k]? = some o → ∀ e ∈ o.after, Region.binds md e = true → e.on < k)
    (hend : ∀ (L : Nat → Bool) (a : Act) (w : World), Inv L a w → (∀ i, i < ops.size → L i = true) → Q .normal a w) :
    ∀ (fuel : Nat) (listed : Array Bool) (L : Nat → Bool) (a : Act) (w : World), listed.size = ops.size → (∀ i, L i = listed.getD i false) → Down ops L → Inv L a w → ((List.range ops.size).filter fun i => !L i).length ≤ fuel → wpAnyIn F n P md ops Q fuel listed a w := by
  have nothing : ∀ (listed : Array Bool) (L : Nat → Bool), listed.size = ops.size → (∀ i, L i = listed.getD i false) → Region.ready md ops listed = [] → ∀ i, i < ops.size → L i = true := by
    intro listed L hsz hL hr i
    induction i using Nat.strongRecOn with
    | _ i ih =>
      intro hi
      cases hLi : L i with
      | true => rfl
      | false =>
        have ho : ops[i]? = some ops[i] := Array.getElem?_eq_getElem hi
        have hmem : i ∈ Region.ready md ops listed := by
          refine mem_ready.2 ⟨?_, ops[i], ho, fun e he hb => ?_⟩
          · rw [hL i] at hLi
            have : i < listed.size := by omega
            simp [this] at hLi ⊢
            exact hLi
          · have hlt := hlow i _ ho e he hb
            rw [← hL]
            exact ih e.on hlt (by omega)
        rw [hr] at hmem
        cases hmem
  intro fuel
  induction fuel with
  | zero =>
    intro listed L a w hsz hL hD hI hlen
    have hall : ∀ i, i < ops.size → L i = true := by
      intro i hi
      cases hLi : L i with
      | true => rfl
      | false =>
        have : i ∈ (List.range ops.size).filter fun i => !L i := List.mem_filter.2 ⟨List.mem_range.2 hi, by rw [hLi]; rfl⟩
        have := List.length_pos_of_mem this
        omega
    have hr : Region.ready md ops listed = [] := by
      refine List.eq_nil_iff_forall_not_mem.2 (fun i hi => ?_)
      obtain ⟨h1, o, ho, _⟩ := mem_ready.1 hi
      have hi' := (Array.getElem?_eq_some_iff.1 ho).1
      have h2 := hall i hi'
      rw [hL i] at h2
      have : i < listed.size := by omega
      simp [this] at h1 h2
      rw [h1] at h2
      cases h2
    exact ⟨hr, hend L a w hI hall⟩
  | succ fuel ih =>
    intro listed L a w hsz hL hD hI hlen
    refine ⟨fun hr => hend L a w hI (nothing listed L hsz hL hr), fun i hi => ?_⟩
    obtain ⟨h1, o, ho, h2⟩ := mem_ready.1 hi
    have hi' := (Array.getElem?_eq_some_iff.1 ho).1
    have hLi : L i = false := by
      rw [hL i]
      have : i < listed.size := by omega
      simp [this] at h1 ⊢
      exact h1
    have h2' : ∀ e ∈ o.after, Region.binds md e = true → L e.on = true := fun e he hb => by rw [hL]; exact h2 e he hb
    refine wpOpIn_mono (fun a' w' hI' => ?_) (hstep L a w i o hD hI hLi ho h2')
    refine ih (listed.setIfInBounds i true) (addL L i) a' w' (by simp [hsz]) (fun k => ?_) ?_ hI' ?_
    · unfold addL
      by_cases hk : k = i
      · subst hk
        have : k < listed.size := by omega
        simp [Array.getElem?_setIfInBounds, this]
      · rw [getD_set_ne false (fun e => hk e.symm), ← hL k, beq_eq_false_iff_ne.2 hk, Bool.false_or]
    · intro k ok hk hok e he hb
      unfold addL at hk ⊢
      rw [Bool.or_eq_true] at hk ⊢
      rcases hk with hk | hk
      · have : k = i := by simpa using hk
        subst this
        rw [ho] at hok
        cases hok
        exact .inr (h2' e he (hdown k _ ho e he hb))
      · exact .inr (hD k ok hk hok e he hb)
    · have : ((List.range ops.size).filter fun k => !addL L i k).length < ((List.range ops.size).filter fun k => !L k).length := by
        have hsub : ((List.range ops.size).filter fun k => !addL L i k) = ((List.range ops.size).filter fun k => !L k).filter fun k => !(k == i) := by
          rw [List.filter_filter]
          refine List.filter_congr (fun k _ => ?_)
          unfold addL
          cases k == i <;> simp
        rw [hsub]
        refine List.length_filter_lt_length_iff_exists.2 ⟨i, List.mem_filter.2 ⟨List.mem_range.2 hi', by rw [hLi]; rfl⟩, by simp⟩
      omega
end

end Go.Proofs.Ytpbhoamojocbpaa
