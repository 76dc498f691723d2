/- Blocks of words that live while a law runs. -/
import Derived.Test.YtecgclkjglkkbaaP2
namespace Go.Proofs.Ytecgclkjglkkbaa
open Go Go.RowKit Go.Shelf
set_option linter.unusedSimpArgs false
set_option linter.unusedVariables false

/-- The listed blocks hold the listed words; what lay at the start lies as it lay. -/
def Live (w : World) (l : List (Nat × (Nat → Nat))) (W : World) : Prop := (∀ p ∈ l, At4 W p.1 p.2) ∧ Below w.heap.size w W

theorem live_nil (w : World) : Live w [] w := ⟨fun _ h => (by cases h), Below.refl _ _⟩
theorem live_below {w W W1 : World} {l : List (Nat × (Nat → Nat))} (h : Live w l W) (hB : Below W.heap.size W W1) : Live w l W1 :=
  ⟨fun p hp => (h.1 p hp).below hB, h.2.trans (hB.mono h.2.size)⟩
theorem live_drew {w W : World} {l : List (Nat × (Nat → Nat))} (h : Live w l W) : Live w l W.drew := ⟨h.1, h.2.drew⟩
theorem live_alloc {w W : World} {l : List (Nat × (Nat → Nat))} (h : Live w l W) (r : Nat → Nat) : Live w ((W.heap.size, r) :: l) (W.alloc (.cells #[.int .u64 (r 0), .int .u64 (r 1), .int .u64 (r 2), .int .u64 (r 3)] 24)) := by
  refine ⟨fun p hp => ?_, h.2.trans (((Below.refl _ W).alloc (Nat.le_refl _) _).mono h.2.size)⟩
  rcases List.mem_cons.1 hp with rfl | hp
  · exact At4.new W r
  · exact (h.1 p hp).alloc _
theorem live_get {w W : World} {l : List (Nat × (Nat → Nat))} (h : Live w l W) (B : Nat) (r : Nat → Nat) (hm : (B, r) ∈ l) : At4 W B r := h.1 (B, r) hm
theorem live_set {w W : World} {l : List (Nat × (Nat → Nat))} {B : Nat} {r : Nat → Nat} (h : Live w ((B, r) :: l) W) (hne : ∀ p ∈ l, p.1 ≠ B) (hw : w.heap.size ≤ B) (q : Nat → Nat) :
    Live w ((B, q) :: l) ((((W.setCell ⟨B, 0, none⟩ (.int .u64 (q 0))).setCell ⟨B, 1, none⟩ (.int .u64 (q 1))).setCell ⟨B, 2, none⟩ (.int .u64 (q 2))).setCell ⟨B, 3, none⟩ (.int .u64 (q 3))) := by
  refine ⟨fun p hp => ?_, below4 h.2 hw _ _ _ _⟩
  rcases List.mem_cons.1 hp with rfl | hp
  · exact (h.1 (B, r) (by simp)).set4 q
  · exact (h.1 p (List.mem_cons_of_mem _ hp)).other4 (hne p hp) _ _ _ _

theorem live_other {w W : World} {l : List (Nat × (Nat → Nat))} {B : Nat} (h : Live w l W) (hne : ∀ p ∈ l, p.1 ≠ B) (hw : w.heap.size ≤ B) (v0 v1 v2 v3 : Value) :
    Live w l ((((W.setCell ⟨B, 0, none⟩ v0).setCell ⟨B, 1, none⟩ v1).setCell ⟨B, 2, none⟩ v2).setCell ⟨B, 3, none⟩ v3) :=
  ⟨fun p hp => (h.1 p hp).other4 (hne p hp) _ _ _ _, below4 h.2 hw _ _ _ _⟩
theorem live_cons {w W : World} {l : List (Nat × (Nat → Nat))} {B : Nat} {r : Nat → Nat} (h : Live w l W) (h2 : At4 W B r) : Live w ((B, r) :: l) W := by
  refine ⟨fun p hp => ?_, h.2⟩
  rcases List.mem_cons.1 hp with rfl | hp
  · exact h2
  · exact h.1 p hp
theorem live_ne {w W : World} {l : List (Nat × (Nat → Nat))} (h : Live w l W) : ∀ p ∈ l, p.1 ≠ W.heap.size := fun p hp e => by
  have := (h.1 p hp).lt
  omega
theorem live_grow {w W : World} {l : List (Nat × (Nat → Nat))} (h : Live w l W) (o : Obj) : Live w l (W.alloc o) := live_below h ((Below.refl _ W).alloc (Nat.le_refl _) o)

/-- Calls of the functions of wide, their answers under names. -/
theorem add_c {a b r : Nat → Nat} {o : Bool} (ha : Wds a) (hb : Wds b) (hr : addR a b = r) (ho : addO a b = o) (w : World) : Calls Try.prog 10 #[.agg #[.int .u64 (a 0), .int .u64 (a 1), .int .u64 (a 2), .int .u64 (a 3)], .agg #[.int .u64 (b 0), .int .u64 (b 1), .int .u64 (b 2), .int .u64 (b 3)]] w fun e w' => e = .returned (.tuple #[.agg #[.int .u64 (r 0), .int .u64 (r 1), .int .u64 (r 2), .int .u64 (r 3)], .bool o]) ∧ Below w.heap.size w w' := by
  subst hr ho; exact add_x a b ha hb w
theorem sub_c {a b r : Nat → Nat} {o : Bool} (ha : Wds a) (hb : Wds b) (hr : subR a b = r) (ho : subO a b = o) (w : World) : Calls Try.prog 12 #[.agg #[.int .u64 (a 0), .int .u64 (a 1), .int .u64 (a 2), .int .u64 (a 3)], .agg #[.int .u64 (b 0), .int .u64 (b 1), .int .u64 (b 2), .int .u64 (b 3)]] w fun e w' => e = .returned (.tuple #[.agg #[.int .u64 (r 0), .int .u64 (r 1), .int .u64 (r 2), .int .u64 (r 3)], .bool o]) ∧ Below w.heap.size w w' := by
  subst hr ho; exact sub_x a b ha hb w
theorem mul_c {a b r : Nat → Nat} {o : Bool} (ha : Wds a) (hb : Wds b) (hr : mulR a b = r) (ho : mulO a b = o) (w : World) : Calls Try.prog 14 #[.agg #[.int .u64 (a 0), .int .u64 (a 1), .int .u64 (a 2), .int .u64 (a 3)], .agg #[.int .u64 (b 0), .int .u64 (b 1), .int .u64 (b 2), .int .u64 (b 3)]] w fun e w' => e = .returned (.tuple #[.agg #[.int .u64 (r 0), .int .u64 (r 1), .int .u64 (r 2), .int .u64 (r 3)], .bool o]) ∧ Below w.heap.size w w' := by
  subst hr ho; exact mul_x a b ha hb w
theorem neg_c {a r : Nat → Nat} {o : Bool} (ha : Wds a) (hr : negR a = r) (ho : negO a = o) (w : World) : Calls Try.prog 16 #[.agg #[.int .u64 (a 0), .int .u64 (a 1), .int .u64 (a 2), .int .u64 (a 3)]] w fun e w' => e = .returned (.tuple #[.agg #[.int .u64 (r 0), .int .u64 (r 1), .int .u64 (r 2), .int .u64 (r 3)], .bool o]) ∧ Below w.heap.size w w' := by
  subst hr ho; exact neg_x a ha w
theorem of_c {n : Int} {r : Nat → Nat} (h1 : -9223372036854775808 ≤ n) (h2 : n ≤ 9223372036854775807) (hr : ofR n = r) (w : World) : Calls Try.prog 22 #[.int .i64 n] w fun e w' => e = .returned (.agg #[.int .u64 (r 0), .int .u64 (r 1), .int .u64 (r 2), .int .u64 (r 3)]) ∧ Below w.heap.size w w' := by
  subst hr; exact of_x n h1 h2 w
theorem int_c {a : Nat → Nat} {n : Int} {o : Bool} (ha : Wds a) (hr : intI a = n) (ho : intB a = o) (w : World) : Calls Try.prog 20 #[.agg #[.int .u64 (a 0), .int .u64 (a 1), .int .u64 (a 2), .int .u64 (a 3)]] w fun e w' => e = .returned (.tuple #[.int .i64 n, .bool o]) ∧ Below w.heap.size w w' := by
  subst hr ho; exact int_x a ha w
theorem cmp_c {a b : Nat → Nat} {n : Int} (ha : Wds a) (hb : Wds b) (hr : cmpR a b = n) (w : World) : Calls Try.prog 24 #[.agg #[.int .u64 (a 0), .int .u64 (a 1), .int .u64 (a 2), .int .u64 (a 3)], .agg #[.int .u64 (b 0), .int .u64 (b 1), .int .u64 (b 2), .int .u64 (b 3)]] w fun e w' => e = .returned (.int .i64 n) ∧ Below w.heap.size w w' := by
  subst hr; exact cmp_x a b ha hb w
theorem sign_c {a : Nat → Nat} {n : Int} (ha : Wds a) (hr : signI a = n) (w : World) : Calls Try.prog 26 #[.agg #[.int .u64 (a 0), .int .u64 (a 1), .int .u64 (a 2), .int .u64 (a 3)]] w fun e w' => e = .returned (.int .i64 n) ∧ Below w.heap.size w w' := by
  subst hr; exact sign_x a ha w
theorem eq_c {a b : Nat → Nat} {o : Bool} (h : eqB a b = o) (w : World) : (Op.equalIn 10000 24 (.agg #[.int .u64 (a 0), .int .u64 (a 1), .int .u64 (a 2), .int .u64 (a 3)]) (.agg #[.int .u64 (b 0), .int .u64 (b 1), .int .u64 (b 2), .int .u64 (b 3)])).run Try.prog w = .ok o w := by
  subst h; exact eq4 a b w

end Go.Proofs.Ytecgclkjglkkbaa
