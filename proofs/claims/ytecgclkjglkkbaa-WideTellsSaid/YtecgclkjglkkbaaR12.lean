/- The contract of the document's own function Mul, by what its numbers come to. -/
import Derived.Test.YtecgclkjglkkbaaR11
namespace Go.Proofs.Ytecgclkjglkkbaa
open Go Go.RowKit Go.Shelf
set_option linter.unusedSimpArgs false
set_option linter.unusedVariables false

/-- The higher eight digits. -/
def hi8 (m : Nat → Nat) : Nat → Nat := fun i => m (8 + i)
theorem nm_cut (B : Nat) (m : Nat → Nat) (n : Nat) : ∀ k, nm B m (n + k) = nm B m n + nm B (fun i => m (n + i)) k * B ^ n := by
  intro k
  induction k with
  | zero => show nm B m n = _; rw [nm, Nat.zero_mul, Nat.add_zero]
  | succ k ih =>
    show nm B m (n + k + 1) = _
    rw [nm, ih, nm, Nat.pow_add, Nat.add_mul, Nat.mul_assoc (m (n + k)), Nat.mul_comm (B ^ k), Nat.add_assoc]
theorem nm_split (m : Nat → Nat) : nm 4294967296 m 16 = nm 4294967296 m 8 + nm 4294967296 (hi8 m) 8 * 115792089237316195423570985008687907853269984665640564039457584007913129639936 := by
  have h := nm_cut 4294967296 m 8 8
  have e : (4294967296 : Nat) ^ 8 = 115792089237316195423570985008687907853269984665640564039457584007913129639936 := rfl
  rw [e] at h
  exact h
theorem nm_zero_iff (m : Nat → Nat) : ∀ k, (nm 4294967296 (hi8 m) k = 0) ↔ hiSt m k = false := by
  intro k
  induction k with
  | zero => simp [nm, hiSt]
  | succ k ih =>
    have hp : 0 < 4294967296 ^ k := Nat.pow_pos (by omega)
    rw [nm, hiSt, Bool.or_eq_false_iff, ← ih, Nat.add_eq_zero_iff, Nat.mul_eq_zero, decide_eq_false_iff_not]
    constructor
    · rintro ⟨h1, h2 | h2⟩
      · exact ⟨h1, by rw [show m (8 + k) = 0 from h2]; omega⟩
      · omega
    · rintro ⟨h1, h2⟩
      exact ⟨h1, .inl (show m (8 + k) = 0 by omega)⟩

theorem mulLo_val {a b : Nat → Nat} (ha : Wds a) (hb : Wds b) : val (mulLo a b) = (val (sizeR a) * val (sizeR b)) % 115792089237316195423570985008687907853269984665640564039457584007913129639936 := by
  have h := out_val (sizeR a) (sizeR b)
  have h2 := val_lt (mulLo_words a b ha hb)
  change val (mulLo a b) + val (hiR (mulLo a b)) * 115792089237316195423570985008687907853269984665640564039457584007913129639936 = _ at h
  rw [← h]
  generalize val (hiR (mulLo a b)) = x at *
  generalize val (mulLo a b) = y at *
  omega
theorem mulHi_val {a b : Nat → Nat} (ha : Wds a) (hb : Wds b) : val (hiR (mulLo a b)) = (val (sizeR a) * val (sizeR b)) / 115792089237316195423570985008687907853269984665640564039457584007913129639936 := by
  have h := out_val (sizeR a) (sizeR b)
  have h2 := val_lt (mulLo_words a b ha hb)
  change val (mulLo a b) + val (hiR (mulLo a b)) * 115792089237316195423570985008687907853269984665640564039457584007913129639936 = _ at h
  rw [← h]
  generalize val (hiR (mulLo a b)) = x at *
  generalize val (mulLo a b) = y at *
  omega

/-- The digits of the product of sizes. -/
def refProd (a b : Nat → Nat) : Nat → Nat := timesR (digR (sizeR a)) (digR (sizeR b))
theorem refProd_digs {a b : Nat → Nat} (ha : Wds a) (hb : Wds b) : Digs (refProd a b) := timesR_digs (digR_digs (sizeR_words a ha)) (digR_digs (sizeR_words b hb))
theorem refProd_parts {a b : Nat → Nat} (ha : Wds a) (hb : Wds b) : dval (refProd a b) = val (mulLo a b) ∧ nm 4294967296 (hi8 (refProd a b)) 8 = val (hiR (mulLo a b)) := by
  have h := timesR_val (digR (sizeR a)) (digR (sizeR b))
  have h2 := nm_split (refProd a b)
  have h3 : nm 4294967296 (refProd a b) 8 < 4294967296 ^ 8 := nm_lt 8 (fun i _ => refProd_digs ha hb i)
  rw [show (4294967296 : Nat) ^ 8 = 115792089237316195423570985008687907853269984665640564039457584007913129639936 from rfl] at h3
  change nm 4294967296 (refProd a b) 16 = _ at h
  rw [digR_dval (sizeR_words a ha), digR_dval (sizeR_words b hb)] at h
  rw [h] at h2
  rw [mulLo_val ha hb, mulHi_val ha hb, h2]
  unfold dval
  generalize nm 4294967296 (hi8 (refProd a b)) 8 = x at *
  generalize nm 4294967296 (refProd a b) 8 = y at *
  constructor <;> omega

theorem neg_pos_bool (x : Nat) (q : Bool) (h1 : x < 115792089237316195423570985008687907853269984665640564039457584007913129639936) : decide (0 < (if decide ((115792089237316195423570985008687907853269984665640564039457584007913129639936 - x) % 115792089237316195423570985008687907853269984665640564039457584007913129639936 = 0) = true then (0 : Int) else if q = true then -1 else 1)) = (!decide (x = 0) && !q) := by
  by_cases h0 : x = 0
  · have e : (115792089237316195423570985008687907853269984665640564039457584007913129639936 - x) % 115792089237316195423570985008687907853269984665640564039457584007913129639936 = 0 := by omega
    rw [decide_eq_true e, decide_eq_true h0]
    cases q <;> rfl
  · have e : ¬ (115792089237316195423570985008687907853269984665640564039457584007913129639936 - x) % 115792089237316195423570985008687907853269984665640564039457584007913129639936 = 0 := by omega
    rw [decide_eq_false e, decide_eq_false h0]
    cases q <;> rfl
theorem hi_bool (x : Nat) (s : Bool) (h : x = 0 ↔ s = false) : decide (x = 0) = !s := by
  cases s with
  | true => exact decide_eq_false (fun e => absurd (h.1 e) (by simp))
  | false => exact decide_eq_true (h.2 rfl)
theorem refmul_hi {a b : Nat → Nat} (ha : Wds a) (hb : Wds b) : eqB (hiR (mulLo a b)) Zr = !hiSt (refProd a b) 8 := by
  have h := nm_zero_iff (refProd a b) 8
  rw [(refProd_parts ha hb).2] at h
  rw [eqB_val (hiR_words (mulLo_words a b ha hb)) zr_words, zr_val]
  exact hi_bool _ _ h
theorem refmul_pos {c n m : Nat → Nat} (hc : Wds c) (hm : Wds m) (hn : negR c = n) (hvn : val n = val m) : decide (0 < signI m) = (!eqB c Zr && !lowB n) := by
  have h1 := val_lt hc
  have hn2 : Wds n := hn ▸ negR_words c
  rw [lowB_eq hn2 hm hvn, eqB_val hc zr_words, zr_val]
  unfold signI
  rw [eqB_val hm zr_words, zr_val, ← hvn, ← hn, negR_val hc]
  exact neg_pos_bool _ _ h1
theorem refmul_x (a b : Nat → Nat) (ha : Wds a) (hb : Wds b) (w : World) : Calls Try.prog 15 #[.agg #[.int .u64 (a 0), .int .u64 (a 1), .int .u64 (a 2), .int .u64 (a 3)], .agg #[.int .u64 (b 0), .int .u64 (b 1), .int .u64 (b 2), .int .u64 (b 3)]] w fun ee w' => ee = .returned (.tuple #[.agg #[.int .u64 ((mulR a b) 0), .int .u64 ((mulR a b) 1), .int .u64 ((mulR a b) 2), .int .u64 ((mulR a b) 3)], .bool (mulO a b)]) ∧ Below w.heap.size w w' := by
  have hm := refProd_digs ha hb
  have p1 := (refProd_parts ha hb).1
  have hh := refmul_hi ha hb
  have hlo := mulLo_words a b ha hb
  have da := digR_digs (sizeR_words a ha)
  have db := digR_digs (sizeR_words b hb)
  unfold mulR mulO
  rw [hh]
  clear hh
  obtain ⟨d, hd⟩ : ∃ d, digR (sizeR a) = d := ⟨_, rfl⟩
  obtain ⟨e, he⟩ : ∃ d, digR (sizeR b) = d := ⟨_, rfl⟩
  obtain ⟨m, hmm⟩ : ∃ m, timesR d e = m := ⟨_, rfl⟩
  have hp : refProd a b = m := by unfold refProd; rw [hd, he, hmm]
  obtain ⟨c, hcc⟩ : ∃ c, widR m = c := ⟨_, rfl⟩
  rw [hp] at hm p1 ⊢
  rw [hd] at da
  rw [he] at db
  clear hp
  have hc : Wds c := hcc ▸ widR_words hm
  have hv : val c = val (mulLo a b) := by rw [← hcc, widR_val]; exact p1
  clear p1
  obtain ⟨lo, hl⟩ : ∃ lo, mulLo a b = lo := ⟨_, rfl⟩
  rw [hl] at hlo hv ⊢
  clear hl
  obtain ⟨n, hnn⟩ : ∃ n, negR c = n := ⟨_, rfl⟩
  obtain ⟨o, hoo⟩ : ∃ o, negO c = o := ⟨_, rfl⟩
  have hn : Wds n := hnn ▸ negR_words c
  have hn2 := negR_words lo
  have hvn : val n = val (negR lo) := by rw [← hnn, negR_val hc, negR_val hlo, hv]
  obtain ⟨qa, hqa⟩ : ∃ q, lowB a = q := ⟨_, rfl⟩
  obtain ⟨qb, hqb⟩ : ∃ q, lowB b = q := ⟨_, rfl⟩
  obtain ⟨qc, hqc⟩ : ∃ q, lowB c = q := ⟨_, rfl⟩
  obtain ⟨qn, hqn⟩ : ∃ q, lowB n = q := ⟨_, rfl⟩
  have hsg := refmul_pos hc hn2 hnn hvn
  rw [hqn] at hsg
  have hlc := lowB_eq hc hlo hv
  rw [hqc] at hlc
  rw [hqa, hqb, ← hlc, hsg]
  clear hsg hlc
  have A1 := agg_eq hc hlo hv
  have A2 := agg_eq hn hn2 hvn
  clear hv hvn hlo hn2
  cases hg : (qa == qb) with
  | true =>
    simp only [if_true]
    rw [← A1]
    clear A1 A2
    cases hs : hiSt m 8 with
    | true => exact refmul_s1 a b d e m c qa qb qc ha hb da db hm hc hd he hmm hcc hs hqa hqb hqc hg w
    | false => exact refmul_s0 a b d e m c qa qb qc ha hb da db hm hc hd he hmm hcc hs hqa hqb hqc hg w
  | false =>
    simp only [Bool.false_eq_true, if_false]
    rw [← A2]
    clear A1 A2
    cases hs : hiSt m 8 with
    | true => exact refmul_d1 a b d e m c n qa qb qc qn o ha hb da db hm hc hn hd he hmm hcc hs hqa hqb hqc hqn hnn hoo hg w
    | false =>
      cases hz : eqB c Zr with
      | true => exact refmul_dz a b d e m c n qa qb qc qn o ha hb da db hm hc hn hd he hmm hcc hs hqa hqb hqc hqn hnn hoo hg hz w
      | false => exact refmul_d0 a b d e m c n qa qb qc qn o ha hb da db hm hc hn hd he hmm hcc hs hqa hqb hqc hqn hnn hoo hg hz w

end Go.Proofs.Ytecgclkjglkkbaa
