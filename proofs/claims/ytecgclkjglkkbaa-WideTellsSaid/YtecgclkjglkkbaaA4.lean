/- The contracts of the small functions of package wide, for every input. -/
import Derived.Test.YtecgclkjglkkbaaA3
import Derived.Laws.Bits64
namespace Go.Proofs.Ytecgclkjglkkbaa
open Go Go.RowKit Go.Shelf
set_option linter.unusedSimpArgs false
set_option linter.unusedVariables false

def addR (a b : Nat → Nat) : Nat → Nat := (addSt a b (List.finRange 4)).1
def addO (a b : Nat → Nat) : Bool := (lowB a == lowB b) && (lowB (addR a b) != lowB a)
def subR (a b : Nat → Nat) : Nat → Nat := (subSt a b (List.finRange 4)).1
def subO (a b : Nat → Nat) : Bool := (lowB a != lowB b) && (lowB (subR a b) != lowB a)
def Zr : Nat → Nat := fun _ => 0
def negR (a : Nat → Nat) : Nat → Nat := subR Zr a
def negO (a : Nat → Nat) : Bool := subO Zr a

theorem addR_words (a b : Nat → Nat) : Wds (addR a b) := addSt_words a b _
theorem subR_words (a b : Nat → Nat) : Wds (subR a b) := subSt_words a b _
theorem negR_words (a : Nat → Nat) : Wds (negR a) := subSt_words Zr a _
theorem zr_words : Wds Zr := fun _ => by simp [Zr]

theorem add_x (a b : Nat → Nat) (ha : Wds a) (hb : Wds b) (w : World) : Calls Try.prog 10 #[.agg #[.int .u64 (a 0), .int .u64 (a 1), .int .u64 (a 2), .int .u64 (a 3)], .agg #[.int .u64 (b 0), .int .u64 (b 1), .int .u64 (b 2), .int .u64 (b 3)]] w fun e w' => e = .returned (.tuple #[.agg #[.int .u64 (addR a b 0), .int .u64 (addR a b 1), .int .u64 (addR a b 2), .int .u64 (addR a b 3)], .bool (addO a b)]) ∧ Below w.heap.size w w' := add_any a b ha hb w
theorem sub_x (a b : Nat → Nat) (ha : Wds a) (hb : Wds b) (w : World) : Calls Try.prog 12 #[.agg #[.int .u64 (a 0), .int .u64 (a 1), .int .u64 (a 2), .int .u64 (a 3)], .agg #[.int .u64 (b 0), .int .u64 (b 1), .int .u64 (b 2), .int .u64 (b 3)]] w fun e w' => e = .returned (.tuple #[.agg #[.int .u64 (subR a b 0), .int .u64 (subR a b 1), .int .u64 (subR a b 2), .int .u64 (subR a b 3)], .bool (subO a b)]) ∧ Below w.heap.size w w' := sub_any a b ha hb w
theorem below_x (a : Nat → Nat) (ha : Wds a) (w : World) : Calls Try.prog 48 #[.agg #[.int .u64 (a 0), .int .u64 (a 1), .int .u64 (a 2), .int .u64 (a 3)]] w fun e w' => e = .returned (.bool (lowB a)) ∧ Below w.heap.size w w' := below_any a (ha 3) w

theorem bcell {W w1 : World} (hb : Below W.heap.size W w1) : (∀ b o, b < W.heap.size → w1.cell? ⟨b, o, none⟩ = W.cell? ⟨b, o, none⟩) ∧ (∀ b o, b < W.heap.size → w1.frozen? ⟨b, o, none⟩ = W.frozen? ⟨b, o, none⟩) :=
  ⟨fun b o h => hb.cell (p := ⟨b, o, none⟩) h, fun b o h => hb.frozen (p := ⟨b, o, none⟩) h⟩

theorem eq4d (d : Nat) (a0 a1 a2 a3 b0 b1 b2 b3 : Int) (w : World) : (Op.equalIn (d + 1 + 1) 24 (.agg #[.int .u64 a0, .int .u64 a1, .int .u64 a2, .int .u64 a3]) (.agg #[.int .u64 b0, .int .u64 b1, .int .u64 b2, .int .u64 b3])).run Try.prog w = .ok (((a0 == b0) && (a1 == b1) && (a2 == b2) && (a3 == b3))) w := by
  have hi : ∀ (x y : Int) (w : World), (Op.equalIn (d + 1) 22 (.int .u64 x) (.int .u64 y)).run Try.prog w = .ok (x == y) w := fun x y w => run_equalIn_int w d 22 .u64 .u64 x y Try.underlying22
  have hs : ∀ w, (sizeOf 22).run Try.prog w = .ok 1 w := fun w => by kernel_rfl
  have hag : ∀ w, (isAgg 22).run Try.prog w = .ok false w := fun w => by kernel_rfl
  have hp : ∀ (cs : Array Value) (i : Nat) (v : Value) (w : World), cs[i]? = some v → (part 22 cs i).run Try.prog w = .ok v w := fun cs i v w h => by
    simp [part, hag, h]
  rw [Op.equalIn]
  simp only [Sem.run_bind, run_underlying Try.underlying24, Result.andThen_ok, hs]
  simp only [Std.Legacy.Range.forIn_eq_forIn_range', Std.Legacy.Range.size, Nat.sub_zero, Nat.add_sub_cancel, Nat.div_one, List.range', List.forIn_cons, List.forIn_nil, Nat.mul_one, Nat.zero_add, Nat.reduceAdd]
  have q0 : ∀ (x0 x1 x2 x3 : Value) w, (part 22 #[x0, x1, x2, x3] 0).run Try.prog w = .ok x0 w := fun _ _ _ _ w => hp _ _ _ w rfl
  have q1 : ∀ (x0 x1 x2 x3 : Value) w, (part 22 #[x0, x1, x2, x3] 1).run Try.prog w = .ok x1 w := fun _ _ _ _ w => hp _ _ _ w rfl
  have q2 : ∀ (x0 x1 x2 x3 : Value) w, (part 22 #[x0, x1, x2, x3] 2).run Try.prog w = .ok x2 w := fun _ _ _ _ w => hp _ _ _ w rfl
  have q3 : ∀ (x0 x1 x2 x3 : Value) w, (part 22 #[x0, x1, x2, x3] 3).run Try.prog w = .ok x3 w := fun _ _ _ _ w => hp _ _ _ w rfl
  cases h0 : (a0 == b0) <;> cases h1 : (a1 == b1) <;> cases h2 : (a2 == b2) <;> cases h3 : (a3 == b3) <;>
    simp [q0, q1, q2, q3, hi, h0, h1, h2, h3]

/-- Are two numbers the same? -/
def eqB (a b : Nat → Nat) : Bool := decide (a 0 = b 0 ∧ a 1 = b 1 ∧ a 2 = b 2 ∧ a 3 = b 3)
theorem eq4 (a b : Nat → Nat) (w : World) : (Op.equalIn 10000 24 (.agg #[.int .u64 (a 0), .int .u64 (a 1), .int .u64 (a 2), .int .u64 (a 3)]) (.agg #[.int .u64 (b 0), .int .u64 (b 1), .int .u64 (b 2), .int .u64 (b 3)])).run Try.prog w = .ok (eqB a b) w := by
  have h : (((a 0 : Int) == (b 0 : Int)) && ((a 1 : Int) == (b 1 : Int)) && ((a 2 : Int) == (b 2 : Int)) && ((a 3 : Int) == (b 3 : Int))) = eqB a b := by
    rw [Bool.eq_iff_iff]
    simp only [Bool.and_eq_true, beq_iff_eq, eqB, decide_eq_true_eq]
    omega
  rw [show (10000 : Nat) = 9998 + 1 + 1 from rfl, eq4d, h]

theorem neg_x (a : Nat → Nat) (ha : Wds a) (w : World) : Calls Try.prog 16 #[.agg #[.int .u64 (a 0), .int .u64 (a 1), .int .u64 (a 2), .int .u64 (a 3)]] w fun e w' => e = .returned (.tuple #[.agg #[.int .u64 (negR a 0), .int .u64 (negR a 1), .int .u64 (negR a 2), .int .u64 (negR a 3)], .bool (negO a)]) ∧ Below w.heap.size w w' := by
  go_enter Try.func16, Try.ntmps16
  go_wp2_with (go_at_call 12; refine (sub_x Zr a zr_words ha _).mono ?_; rintro e W1 ⟨rfl, hB1⟩; obtain ⟨hc, hf⟩ := bcell hB1)
  refine bodyPost_ret (v := .tuple #[.agg #[.int .u64 (negR a 0), .int .u64 (negR a 1), .int .u64 (negR a 2), .int .u64 (negR a 3)], .bool (negO a)]) (by simp [results, Try.results16, go_sem, hc, negR, negO]) rfl ⟨rfl, ?_⟩
  exact below4 (((((Below.refl _ w).alloc (Nat.le_refl _) _).alloc (by simp) _)).trans (hB1.mono (by simp; omega))) (by omega) _ _ _ _

/-- Two blocks: an argument, and what is to be handed back. -/
def Two (N : Nat) (w : World) (a z : Nat → Nat) (W : World) : Prop := At4 W N a ∧ At4 W (N + 1) z ∧ Below N w W
theorem two_new (a : Nat → Nat) (w : World) : Two w.heap.size w a Zr ((w.alloc (.cells #[.int .u64 (a 0), .int .u64 (a 1), .int .u64 (a 2), .int .u64 (a 3)] 24)).alloc (.cells #[.int .u64 0, .int .u64 0, .int .u64 0, .int .u64 0] 24)) := by
  refine ⟨(At4.new w a).alloc _, ?_, ((Below.refl _ w).alloc (Nat.le_refl _) _).alloc (by simp) _⟩
  have h := At4.new (w.alloc (.cells #[.int .u64 (a 0), .int .u64 (a 1), .int .u64 (a 2), .int .u64 (a 3)] 24)) Zr
  rw [World.size_alloc] at h
  exact h
theorem two_below {N : Nat} {w W W1 : World} {a z : Nat → Nat} (h : Two N w a z W) (hB : Below W.heap.size W W1) : Two N w a z W1 :=
  ⟨h.1.below hB, h.2.1.below hB, h.2.2.trans (hB.mono (by have := h.1.lt; omega))⟩

def sizeR (a : Nat → Nat) : Nat → Nat := if lowB a = true then negR a else a

theorem sizeR_words (a : Nat → Nat) (ha : Wds a) : Wds (sizeR a) := by
  unfold sizeR
  split
  · exact negR_words a
  · exact ha

theorem size_x (a : Nat → Nat) (ha : Wds a) (w : World) : Calls Try.prog 56 #[.agg #[.int .u64 (a 0), .int .u64 (a 1), .int .u64 (a 2), .int .u64 (a 3)]] w fun e w' => e = .returned (.agg #[.int .u64 (sizeR a 0), .int .u64 (sizeR a 1), .int .u64 (sizeR a 2), .int .u64 (sizeR a 3)]) ∧ Below w.heap.size w w' := by
  unfold sizeR
  by_cases hl : lowB a = true
  · rw [if_pos hl]
    go_enter Try.func56, Try.ntmps56
    go_wp2_with (first | (go_at_call 48; refine (below_x a ha _).mono ?_; rintro e W1 ⟨rfl, hB1⟩; have hT1 := two_below (two_new a w) hB1; clear hB1; have c0 := hT1.1.cell 0 (by omega); have c1 := hT1.1.cell 1 (by omega); have c2 := hT1.1.cell 2 (by omega); have c3 := hT1.1.cell 3 (by omega); ) | (go_at_call 16; refine (neg_x a ha _).mono ?_; rintro e W2 ⟨rfl, hB2⟩; clear c0 c1 c2 c3; have hT2 := two_below hT1 hB2; have c0 := hT2.1.cell 0 (by omega); have c1 := hT2.1.cell 1 (by omega); have c2 := hT2.1.cell 2 (by omega); have c3 := hT2.1.cell 3 (by omega); have cf0 := hT2.1.frozen 0; have cf1 := hT2.1.frozen 1; have cf2 := hT2.1.frozen 2; have cf3 := hT2.1.frozen 3; have d0 := hT2.2.1.cell 0 (by omega); have d1 := hT2.2.1.cell 1 (by omega); have d2 := hT2.2.1.cell 2 (by omega); have d3 := hT2.2.1.cell 3 (by omega); have df0 := hT2.2.1.frozen 0; have df1 := hT2.2.1.frozen 1; have df2 := hT2.2.1.frozen 2; have df3 := hT2.2.1.frozen 3; ))
    refine bodyPost_ret (v := .agg #[.int .u64 (negR a 0), .int .u64 (negR a 1), .int .u64 (negR a 2), .int .u64 (negR a 3)]) (by simp [results, Try.results56, go_sem, c0, c1, c2, c3, d0, d1, d2, d3]) rfl ⟨rfl, ?_⟩
    exact below4 (below4 hT2.2.2 (by omega) _ _ _ _) (by omega) _ _ _ _
  · rw [if_neg hl]
    have hl2 : lowB a = false := by simpa using hl
    go_enter Try.func56, Try.ntmps56
    go_wp2_with (go_at_call 48; refine (below_x a ha _).mono ?_; rintro e W1 ⟨rfl, hB1⟩; have hT1 := two_below (two_new a w) hB1; clear hB1; have c0 := hT1.1.cell 0 (by omega); have c1 := hT1.1.cell 1 (by omega); have c2 := hT1.1.cell 2 (by omega); have c3 := hT1.1.cell 3 (by omega); have d0 := hT1.2.1.cell 0 (by omega); have d1 := hT1.2.1.cell 1 (by omega); have d2 := hT1.2.1.cell 2 (by omega); have d3 := hT1.2.1.cell 3 (by omega); have df0 := hT1.2.1.frozen 0; have df1 := hT1.2.1.frozen 1; have df2 := hT1.2.1.frozen 2; have df3 := hT1.2.1.frozen 3; )
    refine bodyPost_ret (v := .agg #[.int .u64 (a 0), .int .u64 (a 1), .int .u64 (a 2), .int .u64 (a 3)]) (by simp [results, Try.results56, go_sem, c0, c1, c2, c3, d0, d1, d2, d3]) rfl ⟨rfl, ?_⟩
    exact below4 hT1.2.2 (by omega) _ _ _ _

def signI (a : Nat → Nat) : Int := if eqB a Zr = true then 0 else if lowB a = true then -1 else 1

theorem sign_x (a : Nat → Nat) (ha : Wds a) (w : World) : Calls Try.prog 26 #[.agg #[.int .u64 (a 0), .int .u64 (a 1), .int .u64 (a 2), .int .u64 (a 3)]] w fun e w' => e = .returned (.int .i64 (signI a)) ∧ Below w.heap.size w w' := by
  have hB0 : Below w.heap.size w (w.alloc (.cells #[.int .u64 (a 0), .int .u64 (a 1), .int .u64 (a 2), .int .u64 (a 3)] 24)) := (Below.refl _ w).alloc (Nat.le_refl _) _
  have heq : ∀ w, (Op.equalIn 10000 24 (.agg #[.int .u64 (a 0), .int .u64 (a 1), .int .u64 (a 2), .int .u64 (a 3)]) (.agg #[.int .u64 0, .int .u64 0, .int .u64 0, .int .u64 0])).run Try.prog w = .ok (eqB a Zr) w := fun w => eq4 a Zr w
  unfold signI
  by_cases hz : eqB a Zr = true
  · rw [if_pos hz]
    rw [hz] at heq
    go_enter Try.func26, Try.ntmps26
    go_wp2_with fail
    go_ret
    exact ⟨rfl, hB0⟩
  · rw [if_neg hz]
    have hz2 : eqB a Zr = false := by simpa using hz
    rw [hz2] at heq
    cases hl : lowB a with
    | true =>
      go_enter Try.func26, Try.ntmps26
      go_wp2_with (go_at_call 48; refine (below_x a ha _).mono ?_; rintro e W1 ⟨rfl, hB1⟩)
      go_ret
      exact ⟨rfl, hB0.trans (hB1.mono (by simp))⟩
    | false =>
      go_enter Try.func26, Try.ntmps26
      go_wp2_with (go_at_call 48; refine (below_x a ha _).mono ?_; rintro e W1 ⟨rfl, hB1⟩)
      go_ret
      exact ⟨rfl, hB0.trans (hB1.mono (by simp))⟩

/-- The highest bit turned. -/
def liftW (n : Nat) : Nat := if 9223372036854775808 ≤ n then n - 9223372036854775808 else n + 9223372036854775808
def liftR (a : Nat → Nat) : Nat → Nat := upd a 3 (liftW (a 3))

theorem liftW_lt {n : Nat} (h : n < 18446744073709551616) : liftW n < 18446744073709551616 := by unfold liftW; split <;> omega
theorem liftR_words (a : Nat → Nat) (ha : Wds a) : Wds (liftR a) := by
  intro i
  unfold liftR upd
  split
  · exact liftW_lt (ha 3)
  · exact ha i

theorem xor_top (a : Nat) (ha : a < 18446744073709551616) : bits BinOp.xor IntKind.u64 (a : Int) 9223372036854775808 = (liftW a : Int) := by
  have h := bits_xor_u64_nat a 9223372036854775808 ha (by omega)
  have e : bits BinOp.xor IntKind.u64 (a : Int) 9223372036854775808 = ((a ^^^ 9223372036854775808 : Nat) : Int) := h
  rw [e]
  congr 1
  have h2 : a ^^^ 9223372036854775808 = liftW a := by
    have m1 : (a ^^^ 2 ^ 63) % 2 ^ 63 = a % 2 ^ 63 ^^^ 2 ^ 63 % 2 ^ 63 := Nat.xor_mod_two_pow
    have m2 : (a ^^^ 2 ^ 63) / 2 ^ 63 = a / 2 ^ 63 ^^^ 2 ^ 63 / 2 ^ 63 := Nat.xor_div_two_pow
    rw [show (2 : Nat) ^ 63 % 2 ^ 63 = 0 from rfl, Nat.xor_zero] at m1
    rw [show (2 : Nat) ^ 63 / 2 ^ 63 = 1 from rfl] at m2
    have h3 : a / 2 ^ 63 = 0 ∨ a / 2 ^ 63 = 1 := by omega
    rw [show (2 : Nat) ^ 63 = 9223372036854775808 from rfl] at m1 m2 h3
    generalize a ^^^ 9223372036854775808 = x at *
    unfold liftW
    rcases h3 with h3 | h3
    · rw [h3, show (0 ^^^ 1 : Nat) = 1 from rfl] at m2
      rw [if_neg (by omega)]
      omega
    · rw [h3, show (1 ^^^ 1 : Nat) = 0 from rfl] at m2
      rw [if_pos (by omega)]
      omega
  exact h2

theorem lifted_x (a : Nat → Nat) (ha : Wds a) (w : World) : Calls Try.prog 60 #[.agg #[.int .u64 (a 0), .int .u64 (a 1), .int .u64 (a 2), .int .u64 (a 3)]] w fun e w' => e = .returned (.agg #[.int .u64 (liftR a 0), .int .u64 (liftR a 1), .int .u64 (liftR a 2), .int .u64 (liftR a 3)]) ∧ Below w.heap.size w w' := by
  have hx := xor_top (a 3) (ha 3)
  go_enter Try.func60, Try.ntmps60
  go_wp2
  obtain ⟨x, hx2⟩ : ∃ x : Nat, liftW (a 3) = x := ⟨_, rfl⟩
  rw [show liftR a = upd a 3 x by unfold liftR; rw [hx2], hx2]
  refine bodyPost_ret (v := .agg #[.int .u64 (upd a 3 x 0), .int .u64 (upd a 3 x 1), .int .u64 (upd a 3 x 2), .int .u64 (upd a 3 x 3)]) (by simp [results, Try.results60, go_sem, upd]) rfl ⟨rfl, ?_⟩
  exact ((Below.refl _ w).alloc (Nat.le_refl _) _).alloc (by simp) _

def cmpI (x y : Nat) : Int := if x < y then -1 else if y < x then 1 else 0

theorem nan_x (x : Nat) (w : World) : Calls Try.prog 84 #[.int .u64 x] w fun e w' => e = .returned (.bool false) ∧ w = w' := by
  go_enter Try.func84, Try.ntmps84
  go_wp2
  go_ret
  simp

theorem compare_x (x y : Nat) (w : World) : Calls Try.prog 61 #[.int .u64 x, .int .u64 y] w fun e w' => e = .returned (.int .i64 (cmpI x y)) ∧ w = w' := by
  unfold cmpI
  by_cases h1 : x < y
  · rw [if_pos h1]
    go_enter Try.func61, Try.ntmps61
    go_wp2_with (go_at_call 84; refine (nan_x _ _).mono ?_; rintro e w' ⟨rfl, rfl⟩)
    go_ret
    exact ⟨rfl, rfl⟩
  · rw [if_neg h1]
    by_cases h2 : y < x
    · rw [if_pos h2]
      go_enter Try.func61, Try.ntmps61
      go_wp2_with (go_at_call 84; refine (nan_x _ _).mono ?_; rintro e w' ⟨rfl, rfl⟩)
      go_ret
      exact ⟨rfl, rfl⟩
    · rw [if_neg h2]
      go_enter Try.func61, Try.ntmps61
      go_wp2_with (go_at_call 84; refine (nan_x _ _).mono ?_; rintro e w' ⟨rfl, rfl⟩)
      go_ret
      exact ⟨rfl, rfl⟩

/-- The words of an int. -/
def ofR (n : Int) : Nat → Nat := fun i => if i = 0 then (n % 18446744073709551616).toNat else if n < 0 then 18446744073709551615 else 0
theorem ofR_words (n : Int) : Wds (ofR n) := by
  intro i
  unfold ofR
  split
  · omega
  · split <;> omega

theorem ofSigned_x (n : Int) (h1 : -9223372036854775808 ≤ n) (h2 : n ≤ 9223372036854775807) (w : World) : Calls Try.prog 59 #[.int .i64 n] w fun e w' => e = .returned (.agg #[.int .u64 (ofR n 0), .int .u64 (ofR n 1), .int .u64 (ofR n 2), .int .u64 (ofR n 3)]) ∧ Below w.heap.size w w' := by
  have e0 : IntKind.u64.wrap n = ((ofR n 0 : Nat) : Int) := by rw [IntKind.wrap_u64]; simp only [ofR, if_true]; omega
  have e1 : IntKind.u64.wrap (n / 9223372036854775808) = ((ofR n 1 : Nat) : Int) := by
    rw [IntKind.wrap_u64]
    simp only [ofR, Nat.one_ne_zero, if_false]
    split <;> omega
  have e2 : ofR n 2 = ofR n 1 := rfl
  have e3 : ofR n 3 = ofR n 1 := rfl
  rw [e2, e3]
  have E0 := Lib.hid e0
  have E1 := Lib.hid e1
  clear e0 e1 e2 e3
  go_enter Try.func59, Try.ntmps59
  go_wp2
  rw [E0.out, E1.out]
  refine bodyPost_ret (v := .agg #[.int .u64 (ofR n 0), .int .u64 (ofR n 1), .int .u64 (ofR n 1), .int .u64 (ofR n 1)]) (by simp [results, Try.results59, go_sem]) rfl ⟨rfl, ?_⟩
  exact (Below.refl _ w).alloc (Nat.le_refl _) _

theorem of_x (n : Int) (h1 : -9223372036854775808 ≤ n) (h2 : n ≤ 9223372036854775807) (w : World) : Calls Try.prog 22 #[.int .i64 n] w fun e w' => e = .returned (.agg #[.int .u64 (ofR n 0), .int .u64 (ofR n 1), .int .u64 (ofR n 2), .int .u64 (ofR n 3)]) ∧ Below w.heap.size w w' := by
  have hB0 : Below w.heap.size w (w.alloc (.cells #[.int .u64 0, .int .u64 0, .int .u64 0, .int .u64 0] 24)) := (Below.refl _ w).alloc (Nat.le_refl _) _
  have hZ : At4 (w.alloc (.cells #[.int .u64 0, .int .u64 0, .int .u64 0, .int .u64 0] 24)) w.heap.size Zr := At4.new w Zr
  go_enter Try.func22, Try.ntmps22
  go_wp2_with (go_at_call 59; refine (ofSigned_x n h1 h2 _).mono ?_; rintro e W1 ⟨rfl, hB1⟩; have hZ1 := hZ.below hB1; have c0 := hZ1.cell 0 (by omega); have c1 := hZ1.cell 1 (by omega); have c2 := hZ1.cell 2 (by omega); have c3 := hZ1.cell 3 (by omega); have cf0 := hZ1.frozen 0; have cf1 := hZ1.frozen 1; have cf2 := hZ1.frozen 2; have cf3 := hZ1.frozen 3; )
  refine bodyPost_ret (v := .agg #[.int .u64 (ofR n 0), .int .u64 (ofR n 1), .int .u64 (ofR n 2), .int .u64 (ofR n 3)]) (by simp [results, Try.results22, go_sem, c0, c1, c2, c3]) rfl ⟨rfl, ?_⟩
  exact below4 (hB0.trans (hB1.mono (by simp))) (Nat.le_refl _) _ _ _ _

/-- The int of a word. -/
def intW (n : Nat) : Int := if 9223372036854775808 ≤ n then (n : Int) - 18446744073709551616 else n
def intB (a : Nat → Nat) : Bool := eqB (ofR (intW (a 0))) a
def intI (a : Nat → Nat) : Int := if intB a = true then intW (a 0) else 0

theorem intW_in {n : Nat} (h : n < 18446744073709551616) : -9223372036854775808 ≤ intW n ∧ intW n ≤ 9223372036854775807 := by unfold intW; split <;> omega

theorem int_x (a : Nat → Nat) (ha : Wds a) (w : World) : Calls Try.prog 20 #[.agg #[.int .u64 (a 0), .int .u64 (a 1), .int .u64 (a 2), .int .u64 (a 3)]] w fun e w' => e = .returned (.tuple #[.int .i64 (intI a), .bool (intB a)]) ∧ Below w.heap.size w w' := by
  have hi := intW_in (ha 0)
  have hc : wrap64 (a 0 : Int) = intW (a 0) := by
    have := ha 0
    unfold intW wrap64
    split <;> omega
  have heq : ∀ w, (Op.equalIn 10000 24 (.agg #[.int .u64 (ofR (intW (a 0)) 0), .int .u64 (ofR (intW (a 0)) 1), .int .u64 (ofR (intW (a 0)) 2), .int .u64 (ofR (intW (a 0)) 3)]) (.agg #[.int .u64 (a 0), .int .u64 (a 1), .int .u64 (a 2), .int .u64 (a 3)])).run Try.prog w = .ok (intB a) w := fun w => eq4 _ a w
  unfold intI
  have HC := Lib.hid hc
  have HE := Lib.hid heq
  clear hc heq
  obtain ⟨n, hn⟩ : ∃ n, intW (a 0) = n := ⟨_, rfl⟩
  rw [hn] at hi HC HE ⊢
  clear hn
  obtain ⟨hi1, hi2⟩ := hi
  cases hb : intB a with
  | true =>
    rw [hb] at HE
    clear hb
    rw [if_pos rfl]
    have hA0 := At4.new w a
    go_enter Try.func20, Try.ntmps20
    go_wp2
    rw [HC.out]
    have heq := HE.out
    clear HE
    refine wp_region_held_drew (S := fun W' => At4 W' w.heap.size a ∧ Below w.heap.size w W') (by kernel_rfl) ⟨hA0, (((Below.refl _ w).alloc (Nat.le_refl _) _)).drew⟩ (fun hHeld => ?_)
    refine wpAnyH_take (i := 0) (oi := { dst := some 8, op := Go.Op.move (Go.Operand.tmp 4), type := 3, pos := "wide.go:17", after := #[], guard := none }) (v := ?_) rfl (by kernel_rfl) (by kernel_rfl) (by kernel_rfl) (fun _ _ _ h => h) (Or.inl ⟨by rfl, ?_⟩) (by assumption) ?_
    rotate_left
    · intro w hSw
      go_simp
      try with_reducible rfl
    try simp only [Act.put, List.setIfInBounds_toArray, List.set_cons_zero, List.set_cons_succ]
    refine wpAnyH_take (i := 2) (oi := { dst := some 10, op := Go.Op.load 24 (Go.Operand.tmp 1), type := 24, pos := "wide.go:17", after := #[], guard := none }) (v := ?_) rfl (by kernel_rfl) (by kernel_rfl) (by kernel_rfl) (fun _ _ _ h => h) (Or.inl ⟨by rfl, ?_⟩) (by assumption) ?_
    rotate_left
    · intro w hSw
      have k0 := hSw.1.cell 0 (by omega)
      have k1 := hSw.1.cell 1 (by omega)
      have k2 := hSw.1.cell 2 (by omega)
      have k3 := hSw.1.cell 3 (by omega)
      go_simp
      try with_reducible rfl
    try simp only [Act.put, List.setIfInBounds_toArray, List.set_cons_zero, List.set_cons_succ]
    refine wpAnyH_ready (rs := [1]) (by kernel_rfl) (by simp) ?_
    refine AllReadyH.cons (o := { dst := some 9, op := Go.Op.call { callee := Go.Callee.value (Go.Operand.func 22), args := #[Go.Operand.tmp 8], argTypes := #[3] }, type := 24, pos := "wide.go:17", after := #[{ on := 0, ground := Go.Ground.data }], guard := none }) rfl (fun K hK => ?_) AllReadyH.nil
    go_simp
    refine (of_x n hi1 hi2 _).mono ?_
    rintro e W2 ⟨rfl, hB2⟩
    refine hK.out _ _ ?_ (fun hHeld2 => ?_)
    · exact ⟨hHeld.1.below hB2, hHeld.2.trans (hB2.mono hHeld.2.size)⟩
    clear hK K hHeld
    have hHeld := hHeld2
    clear hHeld2
    try simp only [Act.put, List.setIfInBounds_toArray, List.set_cons_zero, List.set_cons_succ]
    refine wpAnyH_take (i := 3) (oi := { dst := some 11, op := Go.Op.binOp Go.BinOp.neq 24 (Go.Operand.tmp 9) (Go.Operand.tmp 10) 24, type := 4, pos := "wide.go:17", after := #[{ on := 1, ground := Go.Ground.data }, { on := 2, ground := Go.Ground.data }], guard := none }) (v := ?_) rfl (by kernel_rfl) (by kernel_rfl) (by kernel_rfl) (fun _ _ _ h => h) (Or.inl ⟨by rfl, ?_⟩) (by assumption) ?_
    rotate_left
    · intro w hSw
      go_simp
      try with_reducible rfl
    try simp only [Act.put, List.setIfInBounds_toArray, List.set_cons_zero, List.set_cons_succ]
    refine wpAnyH_done (by kernel_rfl) ?_ _
    go_wp2
    go_ret2
    exact ⟨rfl, hHeld.2⟩
  | false =>
    rw [hb] at HE
    clear hb
    rw [if_neg (by simp)]
    have hA0 := At4.new w a
    go_enter Try.func20, Try.ntmps20
    go_wp2
    rw [HC.out]
    have heq := HE.out
    clear HE
    refine wp_region_held_drew (S := fun W' => At4 W' w.heap.size a ∧ Below w.heap.size w W') (by kernel_rfl) ⟨hA0, (((Below.refl _ w).alloc (Nat.le_refl _) _)).drew⟩ (fun hHeld => ?_)
    refine wpAnyH_take (i := 0) (oi := { dst := some 8, op := Go.Op.move (Go.Operand.tmp 4), type := 3, pos := "wide.go:17", after := #[], guard := none }) (v := ?_) rfl (by kernel_rfl) (by kernel_rfl) (by kernel_rfl) (fun _ _ _ h => h) (Or.inl ⟨by rfl, ?_⟩) (by assumption) ?_
    rotate_left
    · intro w hSw
      go_simp
      try with_reducible rfl
    try simp only [Act.put, List.setIfInBounds_toArray, List.set_cons_zero, List.set_cons_succ]
    refine wpAnyH_take (i := 2) (oi := { dst := some 10, op := Go.Op.load 24 (Go.Operand.tmp 1), type := 24, pos := "wide.go:17", after := #[], guard := none }) (v := ?_) rfl (by kernel_rfl) (by kernel_rfl) (by kernel_rfl) (fun _ _ _ h => h) (Or.inl ⟨by rfl, ?_⟩) (by assumption) ?_
    rotate_left
    · intro w hSw
      have k0 := hSw.1.cell 0 (by omega)
      have k1 := hSw.1.cell 1 (by omega)
      have k2 := hSw.1.cell 2 (by omega)
      have k3 := hSw.1.cell 3 (by omega)
      go_simp
      try with_reducible rfl
    try simp only [Act.put, List.setIfInBounds_toArray, List.set_cons_zero, List.set_cons_succ]
    refine wpAnyH_ready (rs := [1]) (by kernel_rfl) (by simp) ?_
    refine AllReadyH.cons (o := { dst := some 9, op := Go.Op.call { callee := Go.Callee.value (Go.Operand.func 22), args := #[Go.Operand.tmp 8], argTypes := #[3] }, type := 24, pos := "wide.go:17", after := #[{ on := 0, ground := Go.Ground.data }], guard := none }) rfl (fun K hK => ?_) AllReadyH.nil
    go_simp
    refine (of_x n hi1 hi2 _).mono ?_
    rintro e W2 ⟨rfl, hB2⟩
    refine hK.out _ _ ?_ (fun hHeld2 => ?_)
    · exact ⟨hHeld.1.below hB2, hHeld.2.trans (hB2.mono hHeld.2.size)⟩
    clear hK K hHeld
    have hHeld := hHeld2
    clear hHeld2
    try simp only [Act.put, List.setIfInBounds_toArray, List.set_cons_zero, List.set_cons_succ]
    refine wpAnyH_take (i := 3) (oi := { dst := some 11, op := Go.Op.binOp Go.BinOp.neq 24 (Go.Operand.tmp 9) (Go.Operand.tmp 10) 24, type := 4, pos := "wide.go:17", after := #[{ on := 1, ground := Go.Ground.data }, { on := 2, ground := Go.Ground.data }], guard := none }) (v := ?_) rfl (by kernel_rfl) (by kernel_rfl) (by kernel_rfl) (fun _ _ _ h => h) (Or.inl ⟨by rfl, ?_⟩) (by assumption) ?_
    rotate_left
    · intro w hSw
      go_simp
      try with_reducible rfl
    try simp only [Act.put, List.setIfInBounds_toArray, List.set_cons_zero, List.set_cons_succ]
    refine wpAnyH_done (by kernel_rfl) ?_ _
    go_wp2
    go_ret2
    exact ⟨rfl, hHeld.2⟩

end Go.Proofs.Ytecgclkjglkkbaa
