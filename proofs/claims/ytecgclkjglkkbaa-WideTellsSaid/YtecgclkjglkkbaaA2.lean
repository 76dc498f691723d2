/- The contract of Add of package wide, for every input. -/
import Derived.Test.YtecgclkjglkkbaaB0
namespace Go.Proofs.Ytecgclkjglkkbaa
open Go Go.RowKit Go.Shelf
set_option linter.unusedSimpArgs false
set_option linter.unusedVariables false

attribute [local go_sem] Oper.semAt_some

/-- Four words, each below 2^64. -/
def Wds (r : Nat → Nat) : Prop := ∀ i, r i < 18446744073709551616

def addStep (a b : Nat → Nat) (s : (Nat → Nat) × Nat) (x : Fin 4) : (Nat → Nat) × Nat :=
  (upd s.1 x.val ((a x.val + b x.val + s.2) % 18446744073709551616), (a x.val + b x.val + s.2) / 18446744073709551616)
def addSt (a b : Nat → Nat) (l : List (Fin 4)) : (Nat → Nat) × Nat := l.foldl (addStep a b) (fun _ => 0, 0)

theorem addSt_snoc (a b : Nat → Nat) (l : List (Fin 4)) (x : Fin 4) : addSt a b (l ++ [x]) = addStep a b (addSt a b l) x := by simp [addSt]
theorem addFold_le {a b : Nat → Nat} (ha : Wds a) (hb : Wds b) (l : List (Fin 4)) : ∀ s : (Nat → Nat) × Nat, s.2 ≤ 1 → (l.foldl (addStep a b) s).2 ≤ 1 := by
  induction l with
  | nil => exact fun s h => h
  | cons x l ih =>
    intro s hs
    refine ih _ ?_
    have := ha x.val
    have := hb x.val
    simp only [addStep]
    omega
theorem addSt_le {a b : Nat → Nat} (ha : Wds a) (hb : Wds b) (l : List (Fin 4)) : (addSt a b l).2 ≤ 1 := addFold_le ha hb l _ (by simp)

/-- The blocks that Add and Sub lay. -/
def lay5 (a b : Nat → Nat) (w : World) : World := ((((w.alloc (.cells #[.int .u64 (a 0), .int .u64 (a 1), .int .u64 (a 2), .int .u64 (a 3)] 24)).alloc (.cells #[.int .u64 (b 0), .int .u64 (b 1), .int .u64 (b 2), .int .u64 (b 3)] 24)).alloc (.cells #[.int .u64 0, .int .u64 0, .int .u64 0, .int .u64 0] 24)).alloc (.cells #[.int .u64 0, .int .u64 0, .int .u64 0, .int .u64 0] 24)).alloc (.cells #[.int .u64 0] 22)

theorem lay5_at (a b : Nat → Nat) (w : World) : At4 (lay5 a b w) w.heap.size a ∧ At4 (lay5 a b w) (w.heap.size + 1) b ∧ At4 (lay5 a b w) (w.heap.size + 1 + 1) (fun _ => 0) ∧ At4 (lay5 a b w) (w.heap.size + 1 + 1 + 1) (fun _ => 0) ∧
    Boxed (lay5 a b w) (w.heap.size + 1 + 1 + 1 + 1) 22 (.int .u64 0) ∧ Below w.heap.size w (lay5 a b w) ∧ (lay5 a b w).heap.size = w.heap.size + 1 + 1 + 1 + 1 + 1 := by
  unfold lay5
  refine ⟨?_, ?_, ?_, ?_, ?_, ?_, ?_⟩
  · exact ((((At4.new w a).alloc _).alloc _).alloc _).alloc _
  · have h := At4.new (w.alloc (.cells #[.int .u64 (a 0), .int .u64 (a 1), .int .u64 (a 2), .int .u64 (a 3)] 24)) b
    rw [World.size_alloc] at h
    exact ((h.alloc _).alloc _).alloc _
  · have h := At4.new ((w.alloc (.cells #[.int .u64 (a 0), .int .u64 (a 1), .int .u64 (a 2), .int .u64 (a 3)] 24)).alloc (.cells #[.int .u64 (b 0), .int .u64 (b 1), .int .u64 (b 2), .int .u64 (b 3)] 24)) (fun _ => 0)
    rw [World.size_alloc, World.size_alloc] at h
    exact (h.alloc _).alloc _
  · have h := At4.new (((w.alloc (.cells #[.int .u64 (a 0), .int .u64 (a 1), .int .u64 (a 2), .int .u64 (a 3)] 24)).alloc (.cells #[.int .u64 (b 0), .int .u64 (b 1), .int .u64 (b 2), .int .u64 (b 3)] 24)).alloc (.cells #[.int .u64 0, .int .u64 0, .int .u64 0, .int .u64 0] 24)) (fun _ => 0)
    rw [World.size_alloc, World.size_alloc, World.size_alloc] at h
    exact h.alloc _
  · have h := Boxed.new ((((w.alloc (.cells #[.int .u64 (a 0), .int .u64 (a 1), .int .u64 (a 2), .int .u64 (a 3)] 24)).alloc (.cells #[.int .u64 (b 0), .int .u64 (b 1), .int .u64 (b 2), .int .u64 (b 3)] 24)).alloc (.cells #[.int .u64 0, .int .u64 0, .int .u64 0, .int .u64 0] 24)).alloc (.cells #[.int .u64 0, .int .u64 0, .int .u64 0, .int .u64 0] 24)) 22 (.int .u64 0)
    rw [World.size_alloc, World.size_alloc, World.size_alloc, World.size_alloc] at h
    exact h
  · exact ((((((Below.refl _ w).alloc (Nat.le_refl _) _).alloc (by simp) _).alloc (by simp; omega) _).alloc (by simp; omega) _).alloc (by simp; omega) _)
  · simp

/-- What lies in the blocks of Add and Sub between two rounds. -/
def Five (N : Nat) (w : World) (a b : Nat → Nat) (s : (Nat → Nat) × Nat) (W : World) : Prop :=
  At4 W N a ∧ At4 W (N + 1) b ∧ At4 W (N + 1 + 1) (fun _ => 0) ∧ At4 W (N + 1 + 1 + 1) s.1 ∧ Boxed W (N + 1 + 1 + 1 + 1) 22 (.int .u64 s.2) ∧ Below N w W

theorem five_own {β : Type} (N B : Nat) (w : World) (hN : N = w.heap.size) (hB : N ≤ B) (a b : Nat → Nat) (f : β → (Nat → Nat) × Nat) : OwnFrom B (fun s W => Five N w a b (f s) W) :=
  OwnFrom.and (Own.from (At4.own _ (fun _ => a)) _) (OwnFrom.and (Own.from (At4.own _ (fun _ => b)) _) (OwnFrom.and (Own.from (At4.own _ (fun _ _ => 0)) _) (OwnFrom.and (Own.from (At4.own _ (fun s => (f s).1)) _)
    (OwnFrom.and (Own.from (boxed_own _ _ (fun s => .int .u64 (f s).2)) _) (ownFrom_below (by omega) hB)))))

theorem five_below {N : Nat} {w W1 W : World} {a b : Nat → Nat} {s : (Nat → Nat) × Nat} (h : Five N w a b s W) (hN : N = w.heap.size) (hB : Below W.heap.size W W1) : Five N w a b s W1 := by
  obtain ⟨h1, h2, h3, h4, h5, h6⟩ := h
  have := h1.lt
  exact ⟨h1.below hB, h2.below hB, h3.below hB, h4.below hB, (hB.block _ h5.lt).trans h5, h6.trans (hB.mono (by omega))⟩

theorem five_store {N : Nat} {w W : World} {a b : Nat → Nat} {s : (Nat → Nat) × Nat} (h : Five N w a b s W) (i v c : Nat) (hi : i < 4) :
    Five N w a b (upd s.1 i v, c) ((W.setCell ⟨N + 1 + 1 + 1, i, none⟩ (.int .u64 v)).setCell ⟨N + 1 + 1 + 1 + 1, 0, none⟩ (.int .u64 c)) := by
  obtain ⟨h1, h2, h3, h4, h5, h6⟩ := h
  exact ⟨(h1.other (by omega) _ _).other (by omega) _ _, (h2.other (by omega) _ _).other (by omega) _ _, (h3.other (by omega) _ _).other (by omega) _ _, (h4.set i v hi).other (by omega) _ _,
    (boxed_other h5 (by omega) i _).set _, (h6.setCell (p := ⟨N + 1 + 1 + 1, i, none⟩) (by show N ≤ N + 1 + 1 + 1; omega) _).setCell (p := ⟨N + 1 + 1 + 1 + 1, 0, none⟩) (by show N ≤ N + 1 + 1 + 1 + 1; omega) _⟩

theorem five_drew {N : Nat} {w W : World} {a b : Nat → Nat} {s : (Nat → Nat) × Nat} (h : Five N w a b s W) : Five N w a b s W.drew := ⟨h.1, h.2.1, h.2.2.1, h.2.2.2.1, h.2.2.2.2.1, h.2.2.2.2.2.drew⟩

theorem below_is (r : Nat → Nat) (q : Bool) (hr : r 3 < 18446744073709551616) (hq : lowB r = q) (w : World) :
    Calls Try.prog 48 #[.agg #[.int .u64 (r 0), .int .u64 (r 1), .int .u64 (r 2), .int .u64 (r 3)]] w fun e w' => e = .returned (.bool q) ∧ Below w.heap.size w w' := hq ▸ below_any r hr w

/-- What Add and Sub lean on behind the loop. -/
def After5 (N D : Nat) (w : World) (a b r : Nat → Nat) (W : World) : Prop :=
  At4 W N a ∧ At4 W (N + 1) b ∧ At4 W (N + 1 + 1 + 1) r ∧ (∃ z, At4 W (N + 1 + 1) z) ∧ W.heap[D]? = some (.deferred (some [])) ∧ Below N w W

theorem after_below {N D : Nat} {w W W1 : World} {a b r : Nat → Nat} (h : After5 N D w a b r W) (hN : N = w.heap.size) (hB : Below W.heap.size W W1) : After5 N D w a b r W1 := by
  obtain ⟨h1, h2, h3, ⟨z, h4⟩, h5, h6⟩ := h
  have := h1.lt
  exact ⟨h1.below hB, h2.below hB, h3.below hB, ⟨z, h4.below hB⟩, (hB.block D (Array.getElem?_eq_some_iff.1 h5).1).trans h5, h6.trans (hB.mono (by omega))⟩

theorem At4.set4 {W : World} {B : Nat} {z : Nat → Nat} (h : At4 W B z) (r : Nat → Nat) :
    At4 ((((W.setCell ⟨B, 0, none⟩ (.int .u64 (r 0))).setCell ⟨B, 1, none⟩ (.int .u64 (r 1))).setCell ⟨B, 2, none⟩ (.int .u64 (r 2))).setCell ⟨B, 3, none⟩ (.int .u64 (r 3))) B r := by
  have := (((h.set 0 (r 0) (by omega)).set 1 (r 1) (by omega)).set 2 (r 2) (by omega)).set 3 (r 3) (by omega)
  exact this
theorem At4.other4 {W : World} {B B' : Nat} {z : Nat → Nat} (h : At4 W B z) (hne : B ≠ B') (v0 v1 v2 v3 : Value) :
    At4 ((((W.setCell ⟨B', 0, none⟩ v0).setCell ⟨B', 1, none⟩ v1).setCell ⟨B', 2, none⟩ v2).setCell ⟨B', 3, none⟩ v3) B z :=
  (((h.other hne _ _).other hne _ _).other hne _ _).other hne _ _
theorem others4 (W : World) (B' : Nat) (v0 v1 v2 v3 : Value) :
    KeepsOthers W ((((W.setCell ⟨B', 0, none⟩ v0).setCell ⟨B', 1, none⟩ v1).setCell ⟨B', 2, none⟩ v2).setCell ⟨B', 3, none⟩ v3) :=
  (((KeepsOthers.setCell W _ _).trans (KeepsOthers.setCell _ _ _)).trans (KeepsOthers.setCell _ _ _)).trans (KeepsOthers.setCell _ _ _)
theorem below4 {W w : World} {n B' : Nat} (h : Below n w W) (hn : n ≤ B') (v0 v1 v2 v3 : Value) :
    Below n w ((((W.setCell ⟨B', 0, none⟩ v0).setCell ⟨B', 1, none⟩ v1).setCell ⟨B', 2, none⟩ v2).setCell ⟨B', 3, none⟩ v3) :=
  (((h.setCell (p := ⟨B', 0, none⟩) hn _).setCell (p := ⟨B', 1, none⟩) hn _).setCell (p := ⟨B', 2, none⟩) hn _).setCell (p := ⟨B', 3, none⟩) hn _

theorem after_store {N D : Nat} {w W : World} {a b r : Nat → Nat} (h : After5 N D w a b r W) :
    After5 N D w a b r ((((W.setCell ⟨N + 1 + 1, 0, none⟩ (.int .u64 (r 0))).setCell ⟨N + 1 + 1, 1, none⟩ (.int .u64 (r 1))).setCell ⟨N + 1 + 1, 2, none⟩ (.int .u64 (r 2))).setCell ⟨N + 1 + 1, 3, none⟩ (.int .u64 (r 3))) ∧
    At4 ((((W.setCell ⟨N + 1 + 1, 0, none⟩ (.int .u64 (r 0))).setCell ⟨N + 1 + 1, 1, none⟩ (.int .u64 (r 1))).setCell ⟨N + 1 + 1, 2, none⟩ (.int .u64 (r 2))).setCell ⟨N + 1 + 1, 3, none⟩ (.int .u64 (r 3))) (N + 1 + 1) r := by
  obtain ⟨h1, h2, h3, ⟨z, h4⟩, h5, h6⟩ := h
  exact ⟨⟨h1.other4 (by omega) _ _ _ _, h2.other4 (by omega) _ _ _ _, h3.other4 (by omega) _ _ _ _, ⟨_, h4.set4 r⟩, (others4 _ _ _ _ _ _).same D _ h5 rfl, below4 h6 (by omega) _ _ _ _⟩, h4.set4 r⟩

theorem after_drew {N D : Nat} {w W : World} {a b r : Nat → Nat} (h : After5 N D w a b r W) : After5 N D w a b r W.drew := ⟨h.1, h.2.1, h.2.2.1, h.2.2.2.1, h.2.2.2.2.1, h.2.2.2.2.2.drew⟩

theorem below_held {N D : Nat} {w : World} {a b r : Nat → Nat} (hN : N = w.heap.size) (x : Nat → Nat) (q : Bool) (hr : x 3 < 18446744073709551616) (hq : lowB x = q) (W : World) (h : After5 N D w a b r W) :
    Calls Try.prog 48 #[.agg #[.int .u64 (x 0), .int .u64 (x 1), .int .u64 (x 2), .int .u64 (x 3)]] W fun e W' => e = .returned (.bool q) ∧ After5 N D w a b r W' :=
  (below_is x q hr hq W).mono fun _ _ ⟨he, hB⟩ => ⟨he, after_below h hN hB⟩

theorem add_words {a b : Nat → Nat} (l : List (Fin 4)) : ∀ s : (Nat → Nat) × Nat, Wds s.1 → Wds (l.foldl (addStep a b) s).1 := by
  induction l with
  | nil => exact fun s h => h
  | cons x l ih =>
    intro s hs
    refine ih _ ?_
    intro i
    simp only [addStep, upd]
    split
    · omega
    · exact hs i
theorem addSt_words (a b : Nat → Nat) (l : List (Fin 4)) : Wds (addSt a b l).1 := add_words l _ (fun _ => by simp)

set_option maxRecDepth 100000 in
set_option maxHeartbeats 2000000 in
theorem add_any (a b : Nat → Nat) (ha : Wds a) (hb : Wds b) (w : World) :
    Calls Try.prog 10 #[V4 a, V4 b] w fun e w' => e = .returned (.tuple #[V4 (addSt a b (List.finRange 4)).1, .bool ((lowB a == lowB b) && (lowB (addSt a b (List.finRange 4)).1 != lowB a))]) ∧ Below w.heap.size w w' := by
  unfold V4
  obtain ⟨R, hR⟩ : ∃ R, addSt a b (List.finRange 4) = R := ⟨_, rfl⟩
  have hRw : Wds R.1 := hR ▸ addSt_words a b _
  rw [hR]
  obtain ⟨qa, hqa⟩ : ∃ q, lowB a = q := ⟨_, rfl⟩
  obtain ⟨qb, hqb⟩ : ∃ q, lowB b = q := ⟨_, rfl⟩
  obtain ⟨qr, hqr⟩ : ∃ q, lowB R.1 = q := ⟨_, rfl⟩
  rw [hqa, hqb, hqr]
  have HR := Lib.hid hR
  have HQA := Lib.hid hqa
  have HQB := Lib.hid hqb
  have HQR := Lib.hid hqr
  clear hR hqa hqb hqr
  refine (callsIn_wide (n := 5)).1 ?_
  refine callsIn_of_wp_marks Try.func10 rfl trivial ?_ rfl
  simp only [Try.ntmps10, List.size_toArray, List.length_cons, List.length_nil, Nat.reduceAdd, Nat.reduceSub, Array.replicate_succ, Array.replicate_zero, List.push_toArray, List.append_toArray, List.nil_append, List.cons_append]
  gi_wp2_with (refine ⟨trivial, ?_⟩; gi_at_call 46; refine (callsIn_wide.2 (wordsOf_any a _)).mono ?_; rintro e W1 ⟨rfl, hT, hsz, hB1⟩; have HS0 := Lib.hid hsz; clear hsz)
  have hsz := HS0.out
  clear HS0
  change Below (lay5 a b w).heap.size (lay5 a b w) W1 at hB1
  change At4 W1 (lay5 a b w).heap.size a at hT
  change W1.heap.size = (lay5 a b w).heap.size + 1 at hsz
  obtain ⟨g1, g2, g3, g4, g5, g6, g7⟩ := lay5_at a b w
  have hF : Five w.heap.size w a b (addSt a b []) W1 := five_below (W := lay5 a b w) ⟨g1, g2, g3, g4, g5, g6⟩ rfl hB1
  rw [g7] at hT hsz
  clear g1 g2 g3 g4 g5 g6 g7 hB1
  obtain ⟨N, hN⟩ : ∃ N, w.heap.size = N := ⟨_, rfl⟩
  rw [hN] at hF hT hsz ⊢
  have hle : N + 1 + 1 + 1 + 1 + 1 < W1.heap.size := by omega
  clear hsz
  refine wpIn_rangeFunc_ownG_of_H rfl (by omega) (gf := 82) (lb := #[.pointer (some ⟨N + 1 + 1 + 1 + 1 + 1, 0, none⟩)]) rfl trivial (enters_of Try.func82 (by kernel_rfl) rfl)
    (words_stops (5 - 1) (by omega) _ a W1 hT) (fun _ _ => trivial) (fun _ _ _ _ _ _ _ _ => trivial) (Below.refl _ _) (fun _ => rfl)
    (fun pre W => Five N w a b (addSt a b pre) W) (fun _ _ _ => False)
    (five_own N _ w hN.symm (by omega) a b (addSt a b)) (fun _ _ _ _ _ hs _ _ => hs) hF
    (fun x => { tmps := #[.agg #[.int .u64 (a 0), .int .u64 (a 1), .int .u64 (a 2), .int .u64 (a 3)], .agg #[.int .u64 (b 0), .int .u64 (b 1), .int .u64 (b 2), .int .u64 (b 3)], .pointer (some ⟨N, 0, none⟩), .pointer (some ⟨N + 1, 0, none⟩), .pointer (some ⟨N + 1 + 1, 0, none⟩), .bool false, .pointer (some ⟨N + 1 + 1 + 1, 0, none⟩), .pointer (some ⟨N + 1 + 1 + 1 + 1, 0, none⟩), .int .i64 x.val, .int .u64 (a x.val), .agg #[.int .u64 (a 0), .int .u64 (a 1), .int .u64 (a 2), .int .u64 (a 3)], .func (.func 82) #[] #[.pointer (some ⟨N + 1 + 1 + 1 + 1 + 1, 0, none⟩)], .int .i64 x.val, .int .u64 (a x.val), undef, undef, undef, undef, undef, undef, undef, undef, undef, undef, undef, undef, undef, undef, undef, undef, undef, undef, undef, undef, undef, undef, undef, undef], defers := [] })
    ?assign ?body ?done ?stop (fun _ => trivial)
  case assign =>
    intro l x W K hK
    dsimp only [wenc]
    gi_wp2
    exact hK
  case body =>
    rintro l pre x W hI hlt
    obtain ⟨k, hk⟩ := x
    dsimp only
    have c3 := hI.2.1.cell k hk
    have c6 := hI.2.2.2.1.cell k hk
    have f6 := hI.2.2.2.1.frozen k
    have c7 := hI.2.2.2.2.1.cell
    have f7 := hI.2.2.2.2.1.frozen
    have hki : (k : Int) < 4 := by omega
    obtain ⟨s, c, hcall, H⟩ : ∃ s c : Nat, (∀ w, (callFunc 47 #[.int .u64 (a k), .int .u64 (b k), .int .u64 (addSt a b pre).2]).run Try.prog w = .ok (.value (.tuple #[.int .u64 s, .int .u64 c])) w) ∧ Hid (addSt a b (pre ++ [⟨k, hk⟩]) = (upd (addSt a b pre).1 k s, c)) :=
      ⟨_, _, call_add64 (a k) (b k) (addSt a b pre).2 (addSt_le ha hb pre), Lib.hid (by rw [addSt_snoc]; rfl)⟩
    gi_wp2
    refine round_region_held (S := fun w' => At4 w' (N + 1) b) (by kernel_rfl) (by kernel_rfl) (by rintro ⟨_, _, h⟩; exact h) hI.2.1 (fun hHeld => ?_)
    refine wpAnyH_take (i := 0) (oi := { dst := some 15, op := Go.Op.move (Go.Operand.tmp 8), type := 3, pos := "wide.go:31", after := #[], guard := none }) (v := ?_) rfl (by kernel_rfl) (by kernel_rfl) (by kernel_rfl) (fun _ _ _ h => h) (Or.inl ⟨by rfl, ?_⟩) (by assumption) ?_
    rotate_left
    · intro w hSw
      have hcw := hSw.cell k hk
      go_simp
      try with_reducible rfl
    try simp only [Act.put, List.setIfInBounds_toArray, List.set_cons_zero, List.set_cons_succ]
    refine wpAnyH_take (i := 1) (oi := { dst := some 16, op := Go.Op.move (Go.Operand.tmp 9), type := 22, pos := "wide.go:31", after := #[], guard := none }) (v := ?_) rfl (by kernel_rfl) (by kernel_rfl) (by kernel_rfl) (fun _ _ _ h => h) (Or.inl ⟨by rfl, ?_⟩) (by assumption) ?_
    rotate_left
    · intro w hSw
      have hcw := hSw.cell k hk
      go_simp
      try with_reducible rfl
    try simp only [Act.put, List.setIfInBounds_toArray, List.set_cons_zero, List.set_cons_succ]
    refine wpAnyH_take (i := 2) (oi := { dst := some 17, op := Go.Op.move (Go.Operand.tmp 8), type := 3, pos := "wide.go:31", after := #[], guard := none }) (v := ?_) rfl (by kernel_rfl) (by kernel_rfl) (by kernel_rfl) (fun _ _ _ h => h) (Or.inl ⟨by rfl, ?_⟩) (by assumption) ?_
    rotate_left
    · intro w hSw
      have hcw := hSw.cell k hk
      go_simp
      try with_reducible rfl
    try simp only [Act.put, List.setIfInBounds_toArray, List.set_cons_zero, List.set_cons_succ]
    refine wpAnyH_take (i := 3) (oi := { dst := some 18, op := Go.Op.indexAddr 24 (Go.Operand.tmp 3) (Go.Operand.tmp 17), type := 0, pos := "wide.go:31", after := #[{ on := 2, ground := Go.Ground.data }], guard := none }) (v := ?_) rfl (by kernel_rfl) (by kernel_rfl) (by kernel_rfl) (fun _ _ _ h => h) (Or.inl ⟨by rfl, ?_⟩) (by assumption) ?_
    rotate_left
    · intro w hSw
      have hcw := hSw.cell k hk
      go_simp
      try with_reducible rfl
    try simp only [Act.put, List.setIfInBounds_toArray, List.set_cons_zero, List.set_cons_succ]
    refine wpAnyH_take (i := 4) (oi := { dst := some 19, op := Go.Op.load 22 (Go.Operand.tmp 18), type := 22, pos := "wide.go:31", after := #[{ on := 3, ground := Go.Ground.data }], guard := none }) (v := ?_) rfl (by kernel_rfl) (by kernel_rfl) (by kernel_rfl) (fun _ _ _ h => h) (Or.inl ⟨by rfl, ?_⟩) (by assumption) ?_
    rotate_left
    · intro w hSw
      have hcw := hSw.cell k hk
      go_simp
      try with_reducible rfl
    try simp only [Act.put, List.setIfInBounds_toArray, List.set_cons_zero, List.set_cons_succ]
    refine wpAnyH_ready (rs := [5]) (by kernel_rfl) (by simp) ?_
    refine AllReadyH.cons (o := { dst := some 20, op := Go.Op.load 22 (Go.Operand.tmp 7), type := 22, pos := "wide.go:31", after := #[], guard := none }) rfl (fun K hK => ?_) AllReadyH.nil
    go_simp
    refine hK.out _ _ ?_ (fun hHeld2 => ?_)
    · exact hHeld
    clear hK K hHeld
    have hHeld := hHeld2
    clear hHeld2
    try simp only [Act.put, List.setIfInBounds_toArray, List.set_cons_zero, List.set_cons_succ]
    refine wpAnyH_ready (rs := [6]) (by kernel_rfl) (by simp) ?_
    refine AllReadyH.cons (o := { dst := some 21, op := Go.Op.call { callee := Go.Callee.value (Go.Operand.func 47), args := #[Go.Operand.tmp 16, Go.Operand.tmp 19, Go.Operand.tmp 20], argTypes := #[22, 22, 22] }, type := 51, pos := "wide.go:31", after := #[{ on := 1, ground := Go.Ground.data }, { on := 4, ground := Go.Ground.data }, { on := 5, ground := Go.Ground.data }], guard := none }) rfl (fun K hK => ?_) AllReadyH.nil
    go_simp
    refine hK.out _ _ ?_ (fun hHeld2 => ?_)
    · exact hHeld
    clear hK K hHeld
    have hHeld := hHeld2
    clear hHeld2
    try simp only [Act.put, List.setIfInBounds_toArray, List.set_cons_zero, List.set_cons_succ]
    refine wpAnyH_take (i := 7) (oi := { dst := some 14, op := Go.Op.move (Go.Operand.tmp 21), type := 51, pos := "wide.go:31", after := #[{ on := 6, ground := Go.Ground.data }], guard := none }) (v := ?_) rfl (by kernel_rfl) (by kernel_rfl) (by kernel_rfl) (fun _ _ _ h => h) (Or.inl ⟨by rfl, ?_⟩) (by assumption) ?_
    rotate_left
    · intro w hSw
      have hcw := hSw.cell k hk
      go_simp
      try with_reducible rfl
    try simp only [Act.put, List.setIfInBounds_toArray, List.set_cons_zero, List.set_cons_succ]
    refine wpAnyH_take (i := 8) (oi := { dst := some 22, op := Go.Op.extract (Go.Operand.tmp 14) 0, type := 22, pos := "wide.go:31", after := #[{ on := 7, ground := Go.Ground.data }], guard := none }) (v := ?_) rfl (by kernel_rfl) (by kernel_rfl) (by kernel_rfl) (fun _ _ _ h => h) (Or.inl ⟨by rfl, ?_⟩) (by assumption) ?_
    rotate_left
    · intro w hSw
      have hcw := hSw.cell k hk
      go_simp
      try with_reducible rfl
    try simp only [Act.put, List.setIfInBounds_toArray, List.set_cons_zero, List.set_cons_succ]
    refine wpAnyH_take (i := 9) (oi := { dst := some 23, op := Go.Op.extract (Go.Operand.tmp 14) 1, type := 22, pos := "wide.go:31", after := #[{ on := 7, ground := Go.Ground.data }, { on := 11, ground := Go.Ground.gcOnly Go.Departure.lateStores }], guard := none }) (v := ?_) rfl (by kernel_rfl) (by kernel_rfl) (by kernel_rfl) (fun _ _ _ h => h) (Or.inl ⟨by rfl, ?_⟩) (by assumption) ?_
    rotate_left
    · intro w hSw
      have hcw := hSw.cell k hk
      go_simp
      try with_reducible rfl
    try simp only [Act.put, List.setIfInBounds_toArray, List.set_cons_zero, List.set_cons_succ]
    refine wpAnyH_take (i := 10) (oi := { dst := some 24, op := Go.Op.indexAddr 24 (Go.Operand.tmp 6) (Go.Operand.tmp 15), type := 0, pos := "wide.go:31", after := #[{ on := 0, ground := Go.Ground.data }, { on := 0, ground := Go.Ground.phase }, { on := 1, ground := Go.Ground.phase }, { on := 2, ground := Go.Ground.phase }, { on := 3, ground := Go.Ground.phase }, { on := 4, ground := Go.Ground.phase }, { on := 5, ground := Go.Ground.phase }, { on := 6, ground := Go.Ground.phase }, { on := 7, ground := Go.Ground.phase }, { on := 8, ground := Go.Ground.phase }, { on := 9, ground := Go.Ground.textOnly Go.Departure.lateStores }], guard := none }) (v := ?_) rfl (by kernel_rfl) (by kernel_rfl) (by kernel_rfl) (fun _ _ _ h => h) (Or.inl ⟨by rfl, ?_⟩) (by assumption) ?_
    rotate_left
    · intro w hSw
      have hcw := hSw.cell k hk
      go_simp
      try with_reducible rfl
    try simp only [Act.put, List.setIfInBounds_toArray, List.set_cons_zero, List.set_cons_succ]
    refine wpAnyH_ready (rs := [11]) (by kernel_rfl) (by simp) ?_
    refine AllReadyH.cons (o := { dst := none, op := Go.Op.store 22 (Go.Operand.tmp 24) (Go.Operand.tmp 22), type := 0, pos := "wide.go:31", after := #[{ on := 10, ground := Go.Ground.data }, { on := 8, ground := Go.Ground.data }, { on := 6, ground := Go.Ground.chain }, { on := 0, ground := Go.Ground.phase }, { on := 1, ground := Go.Ground.phase }, { on := 2, ground := Go.Ground.phase }, { on := 3, ground := Go.Ground.phase }, { on := 4, ground := Go.Ground.phase }, { on := 5, ground := Go.Ground.phase }, { on := 6, ground := Go.Ground.phase }, { on := 7, ground := Go.Ground.phase }, { on := 8, ground := Go.Ground.phase }, { on := 9, ground := Go.Ground.textOnly Go.Departure.lateStores }], guard := none }) rfl (fun K hK => ?_) AllReadyH.nil
    go_simp
    refine hK.out _ _ ?_ (fun hHeld2 => ?_)
    · exact hHeld.other (by omega) _ _
    clear hK K hHeld
    have hHeld := hHeld2
    clear hHeld2
    try simp only [Act.put, List.setIfInBounds_toArray, List.set_cons_zero, List.set_cons_succ]
    refine wpAnyH_ready (rs := [12]) (by kernel_rfl) (by simp) ?_
    refine AllReadyH.cons (o := { dst := none, op := Go.Op.store 22 (Go.Operand.tmp 7) (Go.Operand.tmp 23), type := 0, pos := "wide.go:31", after := #[{ on := 9, ground := Go.Ground.data }, { on := 11, ground := Go.Ground.chain }, { on := 0, ground := Go.Ground.phase }, { on := 1, ground := Go.Ground.phase }, { on := 2, ground := Go.Ground.phase }, { on := 3, ground := Go.Ground.phase }, { on := 4, ground := Go.Ground.phase }, { on := 5, ground := Go.Ground.phase }, { on := 6, ground := Go.Ground.phase }, { on := 7, ground := Go.Ground.phase }, { on := 8, ground := Go.Ground.phase }, { on := 9, ground := Go.Ground.phase }, { on := 10, ground := Go.Ground.phase }, { on := 11, ground := Go.Ground.phase }], guard := none }) rfl (fun K hK => ?_) AllReadyH.nil
    go_simp
    refine hK.out _ _ ?_ (fun hHeld2 => ?_)
    · exact hHeld.other (by omega) _ _
    clear hK K hHeld
    have hHeld := hHeld2
    clear hHeld2
    try simp only [Act.put, List.setIfInBounds_toArray, List.set_cons_zero, List.set_cons_succ]
    refine wpAnyH_done (by kernel_rfl) ?_ _
    refine ⟨⟨Nat.le_of_eq (by simp), fun q o _ hq ho => ?_⟩, trivial, ?_⟩
    · exact ((KeepsOthers.setCell W ⟨N + 1 + 1 + 1, k, none⟩ (.int .u64 s)).trans (KeepsOthers.setCell _ ⟨N + 1 + 1 + 1 + 1, 0, none⟩ (.int .u64 c))).same q o hq ho
    · show Five N w a b (addSt a b (pre ++ [⟨k, hk⟩])) _
      rw [H.out]
      exact five_drew (five_store hI k s c hk)
  case done =>
    rintro D ys W hD rfl hI hK
    rw [HR.out] at hI
    have hA : After5 N D w a b R.1 W := ⟨hI.1, hI.2.1, hI.2.2.2.1, ⟨_, hI.2.2.1⟩, hK, hI.2.2.2.2.2⟩
    gi_wp2
    refine wpIn_wide.2 ?_
    have ha3 := ha 3
    have hb3 := hb 3
    have hr3 := hRw 3
    by_cases hg : (qa == qb) = true
    · refine wp_region_noPanic ?_
      refine wp_region_held_drew (S := fun W' => After5 N D w a b R.1 W') (by kernel_rfl) (after_drew hA) (fun hHeld => ?_)
      refine wpAnyH_take (i := 0) (oi := { dst := some 25, op := Go.Op.load 24 (Go.Operand.tmp 6), type := 24, pos := "wide.go:33", after := #[], guard := none }) (v := ?_) rfl (by kernel_rfl) (by kernel_rfl) (by kernel_rfl) (fun _ _ _ h => h) (Or.inl ⟨by rfl, ?_⟩) (by assumption) ?_
      rotate_left
      · intro w hSw
        have k0 := hSw.2.2.1.cell 0 (by omega)
        have k1 := hSw.2.2.1.cell 1 (by omega)
        have k2 := hSw.2.2.1.cell 2 (by omega)
        have k3 := hSw.2.2.1.cell 3 (by omega)
        go_simp
        try with_reducible rfl
      try simp only [Act.put, List.setIfInBounds_toArray, List.set_cons_zero, List.set_cons_succ]
      refine wpAnyH_take (i := 1) (oi := { dst := some 26, op := Go.Op.load 24 (Go.Operand.tmp 2), type := 24, pos := "wide.go:33", after := #[], guard := none }) (v := ?_) rfl (by kernel_rfl) (by kernel_rfl) (by kernel_rfl) (fun _ _ _ h => h) (Or.inl ⟨by rfl, ?_⟩) (by assumption) ?_
      rotate_left
      · intro w hSw
        have k0 := hSw.1.cell 0 (by omega)
        have k1 := hSw.1.cell 1 (by omega)
        have k2 := hSw.1.cell 2 (by omega)
        have k3 := hSw.1.cell 3 (by omega)
        go_simp
        try with_reducible rfl
      try simp only [Act.put, List.setIfInBounds_toArray, List.set_cons_zero, List.set_cons_succ]
      refine wpAnyH_take (i := 3) (oi := { dst := some 28, op := Go.Op.load 24 (Go.Operand.tmp 3), type := 24, pos := "wide.go:33", after := #[], guard := none }) (v := ?_) rfl (by kernel_rfl) (by kernel_rfl) (by kernel_rfl) (fun _ _ _ h => h) (Or.inl ⟨by rfl, ?_⟩) (by assumption) ?_
      rotate_left
      · intro w hSw
        have k0 := hSw.2.1.cell 0 (by omega)
        have k1 := hSw.2.1.cell 1 (by omega)
        have k2 := hSw.2.1.cell 2 (by omega)
        have k3 := hSw.2.1.cell 3 (by omega)
        go_simp
        try with_reducible rfl
      try simp only [Act.put, List.setIfInBounds_toArray, List.set_cons_zero, List.set_cons_succ]
      refine wpAnyH_ready (rs := [2]) (by kernel_rfl) (by simp) ?_
      refine AllReadyH.cons (o := { dst := some 27, op := Go.Op.call { callee := Go.Callee.value (Go.Operand.func 48), args := #[Go.Operand.tmp 26], argTypes := #[24] }, type := 4, pos := "wide.go:33", after := #[{ on := 1, ground := Go.Ground.data }], guard := none }) rfl (fun K hK => ?_) AllReadyH.nil
      go_simp
      refine (below_held hN.symm a qa ha3 HQA.out _ hHeld).mono ?_
      rintro e W2 ⟨rfl, hA2⟩
      refine hK.out _ _ ?_ (fun hHeld2 => ?_)
      · exact hA2
      clear hK K hHeld
      have hHeld := hHeld2
      clear hHeld2
      try simp only [Act.put, List.setIfInBounds_toArray, List.set_cons_zero, List.set_cons_succ]
      refine wpAnyH_ready (rs := [4]) (by kernel_rfl) (by simp) ?_
      refine AllReadyH.cons (o := { dst := some 29, op := Go.Op.call { callee := Go.Callee.value (Go.Operand.func 48), args := #[Go.Operand.tmp 28], argTypes := #[24] }, type := 4, pos := "wide.go:33", after := #[{ on := 3, ground := Go.Ground.data }, { on := 2, ground := Go.Ground.chain }], guard := none }) rfl (fun K hK => ?_) AllReadyH.nil
      go_simp
      refine (below_held hN.symm b qb hb3 HQB.out _ hHeld).mono ?_
      rintro e W2 ⟨rfl, hA2⟩
      refine hK.out _ _ ?_ (fun hHeld2 => ?_)
      · exact hA2
      clear hK K hHeld
      have hHeld := hHeld2
      clear hHeld2
      try simp only [Act.put, List.setIfInBounds_toArray, List.set_cons_zero, List.set_cons_succ]
      refine wpAnyH_take (i := 5) (oi := { dst := some 30, op := Go.Op.binOp Go.BinOp.eql 4 (Go.Operand.tmp 27) (Go.Operand.tmp 29) 4, type := 4, pos := "wide.go:33", after := #[{ on := 2, ground := Go.Ground.data }, { on := 4, ground := Go.Ground.data }], guard := none }) (v := ?_) rfl (by kernel_rfl) (by kernel_rfl) (by kernel_rfl) (fun _ _ _ h => h) (Or.inl ⟨by rfl, ?_⟩) (by assumption) ?_
      rotate_left
      · intro w hSw
        go_simp
        try with_reducible rfl
      try simp only [Act.put, List.setIfInBounds_toArray, List.set_cons_zero, List.set_cons_succ]
      refine wpAnyH_take (i := 6) (oi := { dst := some 31, op := Go.Op.move (Go.Operand.tmp 30), type := 4, pos := "wide.go:33", after := #[{ on := 5, ground := Go.Ground.data }, { on := 4, ground := Go.Ground.chain }], guard := none }) (v := ?_) rfl (by kernel_rfl) (by kernel_rfl) (by kernel_rfl) (fun _ _ _ h => h) (Or.inl ⟨by rfl, ?_⟩) (by assumption) ?_
      rotate_left
      · intro w hSw
        go_simp
        try with_reducible rfl
      try simp only [Act.put, List.setIfInBounds_toArray, List.set_cons_zero, List.set_cons_succ]
      refine wpAnyH_take (i := 7) (oi := { dst := some 32, op := Go.Op.load 24 (Go.Operand.tmp 6), type := 24, pos := "wide.go:33", after := #[{ on := 6, ground := Go.Ground.guard }], guard := some (6, true) }) (v := ?_) rfl (by kernel_rfl) (by kernel_rfl) (by kernel_rfl) (fun _ _ _ h => h) (Or.inl ⟨by rfl, ?_⟩) (by assumption) ?_
      rotate_left
      · intro w hSw
        have k0 := hSw.2.2.1.cell 0 (by omega)
        have k1 := hSw.2.2.1.cell 1 (by omega)
        have k2 := hSw.2.2.1.cell 2 (by omega)
        have k3 := hSw.2.2.1.cell 3 (by omega)
        go_simp
        try with_reducible rfl
      try simp only [Act.put, List.setIfInBounds_toArray, List.set_cons_zero, List.set_cons_succ]
      refine wpAnyH_take (i := 9) (oi := { dst := some 34, op := Go.Op.load 24 (Go.Operand.tmp 2), type := 24, pos := "wide.go:33", after := #[{ on := 6, ground := Go.Ground.guard }], guard := some (6, true) }) (v := ?_) rfl (by kernel_rfl) (by kernel_rfl) (by kernel_rfl) (fun _ _ _ h => h) (Or.inl ⟨by rfl, ?_⟩) (by assumption) ?_
      rotate_left
      · intro w hSw
        have k0 := hSw.1.cell 0 (by omega)
        have k1 := hSw.1.cell 1 (by omega)
        have k2 := hSw.1.cell 2 (by omega)
        have k3 := hSw.1.cell 3 (by omega)
        go_simp
        try with_reducible rfl
      try simp only [Act.put, List.setIfInBounds_toArray, List.set_cons_zero, List.set_cons_succ]
      refine wpAnyH_ready (rs := [8]) (by kernel_rfl) (by simp) ?_
      refine AllReadyH.cons (o := { dst := some 33, op := Go.Op.call { callee := Go.Callee.value (Go.Operand.func 48), args := #[Go.Operand.tmp 32], argTypes := #[24] }, type := 4, pos := "wide.go:33", after := #[{ on := 7, ground := Go.Ground.data }, { on := 6, ground := Go.Ground.chain }, { on := 6, ground := Go.Ground.guard }], guard := some (6, true) }) rfl (fun K hK => ?_) AllReadyH.nil
      go_simp
      refine (below_held hN.symm R.1 qr hr3 HQR.out _ hHeld).mono ?_
      rintro e W2 ⟨rfl, hA2⟩
      refine hK.out _ _ ?_ (fun hHeld2 => ?_)
      · exact hA2
      clear hK K hHeld
      have hHeld := hHeld2
      clear hHeld2
      try simp only [Act.put, List.setIfInBounds_toArray, List.set_cons_zero, List.set_cons_succ]
      refine wpAnyH_ready (rs := [10]) (by kernel_rfl) (by simp) ?_
      refine AllReadyH.cons (o := { dst := some 35, op := Go.Op.call { callee := Go.Callee.value (Go.Operand.func 48), args := #[Go.Operand.tmp 34], argTypes := #[24] }, type := 4, pos := "wide.go:33", after := #[{ on := 9, ground := Go.Ground.data }, { on := 8, ground := Go.Ground.chain }, { on := 6, ground := Go.Ground.guard }], guard := some (6, true) }) rfl (fun K hK => ?_) AllReadyH.nil
      go_simp
      refine (below_held hN.symm a qa ha3 HQA.out _ hHeld).mono ?_
      rintro e W2 ⟨rfl, hA2⟩
      refine hK.out _ _ ?_ (fun hHeld2 => ?_)
      · exact hA2
      clear hK K hHeld
      have hHeld := hHeld2
      clear hHeld2
      try simp only [Act.put, List.setIfInBounds_toArray, List.set_cons_zero, List.set_cons_succ]
      refine wpAnyH_take (i := 11) (oi := { dst := some 36, op := Go.Op.binOp Go.BinOp.neq 4 (Go.Operand.tmp 33) (Go.Operand.tmp 35) 4, type := 4, pos := "wide.go:33", after := #[{ on := 8, ground := Go.Ground.data }, { on := 10, ground := Go.Ground.data }, { on := 6, ground := Go.Ground.guard }, { on := 13, ground := Go.Ground.gcOnly Go.Departure.lateStores }], guard := some (6, true) }) (v := ?_) rfl (by kernel_rfl) (by kernel_rfl) (by kernel_rfl) (fun _ _ _ h => h) (Or.inl ⟨by rfl, ?_⟩) (by assumption) ?_
      rotate_left
      · intro w hSw
        go_simp
        try with_reducible rfl
      try simp only [Act.put, List.setIfInBounds_toArray, List.set_cons_zero, List.set_cons_succ]
      refine wpAnyH_take (i := 12) (oi := { dst := some 37, op := Go.Op.pick (Go.Operand.tmp 31) (Go.Operand.tmp 36) (Go.Operand.const (Go.Value.bool false)), type := 4, pos := "wide.go:33", after := #[{ on := 6, ground := Go.Ground.data }, { on := 11, ground := Go.Ground.data }, { on := 13, ground := Go.Ground.gcOnly Go.Departure.lateStores }], guard := none }) (v := ?_) rfl (by kernel_rfl) (by kernel_rfl) (by kernel_rfl) (fun _ _ _ h => h) (Or.inl ⟨by rfl, ?_⟩) (by assumption) ?_
      rotate_left
      · intro w hSw
        go_simp
        try with_reducible rfl
      try simp only [Act.put, List.setIfInBounds_toArray, List.set_cons_zero, List.set_cons_succ]
      refine wpAnyH_ready (rs := [13]) (by kernel_rfl) (by simp) ?_
      refine AllReadyH.cons (o := { dst := none, op := Go.Op.store 24 (Go.Operand.tmp 4) (Go.Operand.tmp 25), type := 0, pos := "wide.go:33", after := #[{ on := 0, ground := Go.Ground.data }, { on := 10, ground := Go.Ground.chain }, { on := 0, ground := Go.Ground.phase }, { on := 1, ground := Go.Ground.textOnly Go.Departure.lateStores }, { on := 2, ground := Go.Ground.textOnly Go.Departure.lateStoresUnsure }, { on := 3, ground := Go.Ground.textOnly Go.Departure.lateStores }, { on := 4, ground := Go.Ground.textOnly Go.Departure.lateStoresUnsure }, { on := 5, ground := Go.Ground.textOnly Go.Departure.lateStores }, { on := 6, ground := Go.Ground.textOnly Go.Departure.lateStores }, { on := 7, ground := Go.Ground.textOnly Go.Departure.lateStores }, { on := 8, ground := Go.Ground.textOnly Go.Departure.lateStoresUnsure }, { on := 9, ground := Go.Ground.textOnly Go.Departure.lateStores }, { on := 10, ground := Go.Ground.textOnly Go.Departure.lateStoresUnsure }, { on := 11, ground := Go.Ground.textOnly Go.Departure.lateStores }, { on := 12, ground := Go.Ground.textOnly Go.Departure.lateStores }], guard := none }) rfl (fun K hK => ?_) AllReadyH.nil
      have hA3 := after_store hHeld
      obtain ⟨z, hz⟩ := hHeld.2.2.2.1
      have k0 := hz.cell 0 (by omega)
      have k1 := hz.cell 1 (by omega)
      have k2 := hz.cell 2 (by omega)
      have k3 := hz.cell 3 (by omega)
      have f0 := hz.frozen 0
      have f1 := hz.frozen 1
      have f2 := hz.frozen 2
      have f3 := hz.frozen 3
      clear hz
      go_simp
      refine hK.out _ _ ?_ (fun hHeld2 => ?_)
      · exact hA3.1
      clear hK K hHeld
      have hHeld := hHeld2
      clear hHeld2
      try simp only [Act.put, List.setIfInBounds_toArray, List.set_cons_zero, List.set_cons_succ]
      refine wpAnyH_take (i := 14) (oi := { dst := some 5, op := Go.Op.assign (Go.Operand.tmp 37), type := 4, pos := "wide.go:33", after := #[{ on := 12, ground := Go.Ground.data }, { on := 13, ground := Go.Ground.chain }, { on := 0, ground := Go.Ground.phase }, { on := 1, ground := Go.Ground.phase }, { on := 2, ground := Go.Ground.phase }, { on := 3, ground := Go.Ground.phase }, { on := 4, ground := Go.Ground.phase }, { on := 5, ground := Go.Ground.phase }, { on := 6, ground := Go.Ground.phase }, { on := 7, ground := Go.Ground.phase }, { on := 8, ground := Go.Ground.phase }, { on := 9, ground := Go.Ground.phase }, { on := 10, ground := Go.Ground.phase }, { on := 11, ground := Go.Ground.phase }, { on := 12, ground := Go.Ground.phase }, { on := 13, ground := Go.Ground.phase }], guard := none }) (v := ?_) rfl (by kernel_rfl) (by kernel_rfl) (by kernel_rfl) (fun _ _ _ h => h) (Or.inl ⟨by rfl, ?_⟩) (by assumption) ?_
      rotate_left
      · intro w hSw
        go_simp
        try with_reducible rfl
      try simp only [Act.put, List.setIfInBounds_toArray, List.set_cons_zero, List.set_cons_succ]
      refine wpAnyH_done (by kernel_rfl) ?_ _
      clear k0 k1 k2 k3 f0 f1 f2 f3 hHeld
      refine NoPanic.normal ?_
      obtain ⟨hA4, hZ⟩ := hA3
      gi_wp2
      obtain ⟨W3, hW3⟩ : ∃ W3, ((((W2.setCell ⟨N + 1 + 1, 0, none⟩ (.int .u64 (R.1 0))).setCell ⟨N + 1 + 1, 1, none⟩ (.int .u64 (R.1 1))).setCell ⟨N + 1 + 1, 2, none⟩ (.int .u64 (R.1 2))).setCell ⟨N + 1 + 1, 3, none⟩ (.int .u64 (R.1 3))) = W3 := ⟨_, rfl⟩
      rw [hW3] at hA4 hZ ⊢
      have hK2 := hA4.2.2.2.2.1
      refine ⟨by simp, .inl ⟨_, _, rfl, run_takeDeferred hK2, ?_⟩⟩
      have hZ2 : At4 (W3.putObj D (.deferred none)) (N + 1 + 1) R.1 := At4.own (N + 1 + 1) (fun (_ : Unit) => R.1) () _ _ _ hZ (grownBy_putObj' _ D (.deferred none)) (fun r e => by cases e; exact ⟨_, hK2, rfl⟩)
      have k0 := hZ2.cell 0 (by omega)
      have k1 := hZ2.cell 1 (by omega)
      have k2 := hZ2.cell 2 (by omega)
      have k3 := hZ2.cell 3 (by omega)
      refine ⟨.tuple #[.agg #[.int .u64 (R.1 0), .int .u64 (R.1 1), .int .u64 (R.1 2), .int .u64 (R.1 3)], .bool (qr != qa)], by simp [results, Try.results10, go_sem, k0, k1, k2, k3] <;> (cases qr <;> cases qa <;> rfl), by rw [hg]; rfl, ?_⟩
      rw [hN]
      exact hA4.2.2.2.2.2.trans (belowK_b (w := W1) (by omega) _ D _ _ hD hK2 rfl rfl)
    · have hg2 : (qa == qb) = false := by simpa using hg
      refine wp_region_noPanic ?_
      refine wp_region_held_drew (S := fun W' => After5 N D w a b R.1 W') (by kernel_rfl) (after_drew hA) (fun hHeld => ?_)
      refine wpAnyH_take (i := 0) (oi := { dst := some 25, op := Go.Op.load 24 (Go.Operand.tmp 6), type := 24, pos := "wide.go:33", after := #[], guard := none }) (v := ?_) rfl (by kernel_rfl) (by kernel_rfl) (by kernel_rfl) (fun _ _ _ h => h) (Or.inl ⟨by rfl, ?_⟩) (by assumption) ?_
      rotate_left
      · intro w hSw
        have k0 := hSw.2.2.1.cell 0 (by omega)
        have k1 := hSw.2.2.1.cell 1 (by omega)
        have k2 := hSw.2.2.1.cell 2 (by omega)
        have k3 := hSw.2.2.1.cell 3 (by omega)
        go_simp
        try with_reducible rfl
      try simp only [Act.put, List.setIfInBounds_toArray, List.set_cons_zero, List.set_cons_succ]
      refine wpAnyH_take (i := 1) (oi := { dst := some 26, op := Go.Op.load 24 (Go.Operand.tmp 2), type := 24, pos := "wide.go:33", after := #[], guard := none }) (v := ?_) rfl (by kernel_rfl) (by kernel_rfl) (by kernel_rfl) (fun _ _ _ h => h) (Or.inl ⟨by rfl, ?_⟩) (by assumption) ?_
      rotate_left
      · intro w hSw
        have k0 := hSw.1.cell 0 (by omega)
        have k1 := hSw.1.cell 1 (by omega)
        have k2 := hSw.1.cell 2 (by omega)
        have k3 := hSw.1.cell 3 (by omega)
        go_simp
        try with_reducible rfl
      try simp only [Act.put, List.setIfInBounds_toArray, List.set_cons_zero, List.set_cons_succ]
      refine wpAnyH_take (i := 3) (oi := { dst := some 28, op := Go.Op.load 24 (Go.Operand.tmp 3), type := 24, pos := "wide.go:33", after := #[], guard := none }) (v := ?_) rfl (by kernel_rfl) (by kernel_rfl) (by kernel_rfl) (fun _ _ _ h => h) (Or.inl ⟨by rfl, ?_⟩) (by assumption) ?_
      rotate_left
      · intro w hSw
        have k0 := hSw.2.1.cell 0 (by omega)
        have k1 := hSw.2.1.cell 1 (by omega)
        have k2 := hSw.2.1.cell 2 (by omega)
        have k3 := hSw.2.1.cell 3 (by omega)
        go_simp
        try with_reducible rfl
      try simp only [Act.put, List.setIfInBounds_toArray, List.set_cons_zero, List.set_cons_succ]
      refine wpAnyH_ready (rs := [2]) (by kernel_rfl) (by simp) ?_
      refine AllReadyH.cons (o := { dst := some 27, op := Go.Op.call { callee := Go.Callee.value (Go.Operand.func 48), args := #[Go.Operand.tmp 26], argTypes := #[24] }, type := 4, pos := "wide.go:33", after := #[{ on := 1, ground := Go.Ground.data }], guard := none }) rfl (fun K hK => ?_) AllReadyH.nil
      go_simp
      refine (below_held hN.symm a qa ha3 HQA.out _ hHeld).mono ?_
      rintro e W2 ⟨rfl, hA2⟩
      refine hK.out _ _ ?_ (fun hHeld2 => ?_)
      · exact hA2
      clear hK K hHeld
      have hHeld := hHeld2
      clear hHeld2
      try simp only [Act.put, List.setIfInBounds_toArray, List.set_cons_zero, List.set_cons_succ]
      refine wpAnyH_ready (rs := [4]) (by kernel_rfl) (by simp) ?_
      refine AllReadyH.cons (o := { dst := some 29, op := Go.Op.call { callee := Go.Callee.value (Go.Operand.func 48), args := #[Go.Operand.tmp 28], argTypes := #[24] }, type := 4, pos := "wide.go:33", after := #[{ on := 3, ground := Go.Ground.data }, { on := 2, ground := Go.Ground.chain }], guard := none }) rfl (fun K hK => ?_) AllReadyH.nil
      go_simp
      refine (below_held hN.symm b qb hb3 HQB.out _ hHeld).mono ?_
      rintro e W2 ⟨rfl, hA2⟩
      refine hK.out _ _ ?_ (fun hHeld2 => ?_)
      · exact hA2
      clear hK K hHeld
      have hHeld := hHeld2
      clear hHeld2
      try simp only [Act.put, List.setIfInBounds_toArray, List.set_cons_zero, List.set_cons_succ]
      refine wpAnyH_take (i := 5) (oi := { dst := some 30, op := Go.Op.binOp Go.BinOp.eql 4 (Go.Operand.tmp 27) (Go.Operand.tmp 29) 4, type := 4, pos := "wide.go:33", after := #[{ on := 2, ground := Go.Ground.data }, { on := 4, ground := Go.Ground.data }], guard := none }) (v := ?_) rfl (by kernel_rfl) (by kernel_rfl) (by kernel_rfl) (fun _ _ _ h => h) (Or.inl ⟨by rfl, ?_⟩) (by assumption) ?_
      rotate_left
      · intro w hSw
        go_simp
        try with_reducible rfl
      try simp only [Act.put, List.setIfInBounds_toArray, List.set_cons_zero, List.set_cons_succ]
      refine wpAnyH_take (i := 6) (oi := { dst := some 31, op := Go.Op.move (Go.Operand.tmp 30), type := 4, pos := "wide.go:33", after := #[{ on := 5, ground := Go.Ground.data }, { on := 4, ground := Go.Ground.chain }], guard := none }) (v := ?_) rfl (by kernel_rfl) (by kernel_rfl) (by kernel_rfl) (fun _ _ _ h => h) (Or.inl ⟨by rfl, ?_⟩) (by assumption) ?_
      rotate_left
      · intro w hSw
        go_simp
        try with_reducible rfl
      try simp only [Act.put, List.setIfInBounds_toArray, List.set_cons_zero, List.set_cons_succ]
      refine wpAnyH_take (i := 7) (oi := { dst := some 32, op := Go.Op.load 24 (Go.Operand.tmp 6), type := 24, pos := "wide.go:33", after := #[{ on := 6, ground := Go.Ground.guard }], guard := some (6, true) }) (v := undef) rfl (by kernel_rfl) (by kernel_rfl) (by kernel_rfl) (fun _ _ _ h => h) (Or.inr ⟨by rfl, rfl⟩) (by assumption) ?_
      try simp only [Act.put, List.setIfInBounds_toArray, List.set_cons_zero, List.set_cons_succ]
      refine wpAnyH_take (i := 9) (oi := { dst := some 34, op := Go.Op.load 24 (Go.Operand.tmp 2), type := 24, pos := "wide.go:33", after := #[{ on := 6, ground := Go.Ground.guard }], guard := some (6, true) }) (v := undef) rfl (by kernel_rfl) (by kernel_rfl) (by kernel_rfl) (fun _ _ _ h => h) (Or.inr ⟨by rfl, rfl⟩) (by assumption) ?_
      try simp only [Act.put, List.setIfInBounds_toArray, List.set_cons_zero, List.set_cons_succ]
      refine wpAnyH_ready (rs := [8]) (by kernel_rfl) (by simp) ?_
      refine AllReadyH.cons (o := { dst := some 33, op := Go.Op.call { callee := Go.Callee.value (Go.Operand.func 48), args := #[Go.Operand.tmp 32], argTypes := #[24] }, type := 4, pos := "wide.go:33", after := #[{ on := 7, ground := Go.Ground.data }, { on := 6, ground := Go.Ground.chain }, { on := 6, ground := Go.Ground.guard }], guard := some (6, true) }) rfl (fun K hK => ?_) AllReadyH.nil
      go_simp
      refine hK.out _ _ ?_ (fun hHeld2 => ?_)
      · exact hHeld
      clear hK K hHeld
      have hHeld := hHeld2
      clear hHeld2
      try simp only [Act.put, List.setIfInBounds_toArray, List.set_cons_zero, List.set_cons_succ]
      refine wpAnyH_ready (rs := [10]) (by kernel_rfl) (by simp) ?_
      refine AllReadyH.cons (o := { dst := some 35, op := Go.Op.call { callee := Go.Callee.value (Go.Operand.func 48), args := #[Go.Operand.tmp 34], argTypes := #[24] }, type := 4, pos := "wide.go:33", after := #[{ on := 9, ground := Go.Ground.data }, { on := 8, ground := Go.Ground.chain }, { on := 6, ground := Go.Ground.guard }], guard := some (6, true) }) rfl (fun K hK => ?_) AllReadyH.nil
      go_simp
      refine hK.out _ _ ?_ (fun hHeld2 => ?_)
      · exact hHeld
      clear hK K hHeld
      have hHeld := hHeld2
      clear hHeld2
      try simp only [Act.put, List.setIfInBounds_toArray, List.set_cons_zero, List.set_cons_succ]
      refine wpAnyH_take (i := 11) (oi := { dst := some 36, op := Go.Op.binOp Go.BinOp.neq 4 (Go.Operand.tmp 33) (Go.Operand.tmp 35) 4, type := 4, pos := "wide.go:33", after := #[{ on := 8, ground := Go.Ground.data }, { on := 10, ground := Go.Ground.data }, { on := 6, ground := Go.Ground.guard }, { on := 13, ground := Go.Ground.gcOnly Go.Departure.lateStores }], guard := some (6, true) }) (v := undef) rfl (by kernel_rfl) (by kernel_rfl) (by kernel_rfl) (fun _ _ _ h => h) (Or.inr ⟨by rfl, rfl⟩) (by assumption) ?_
      try simp only [Act.put, List.setIfInBounds_toArray, List.set_cons_zero, List.set_cons_succ]
      refine wpAnyH_take (i := 12) (oi := { dst := some 37, op := Go.Op.pick (Go.Operand.tmp 31) (Go.Operand.tmp 36) (Go.Operand.const (Go.Value.bool false)), type := 4, pos := "wide.go:33", after := #[{ on := 6, ground := Go.Ground.data }, { on := 11, ground := Go.Ground.data }, { on := 13, ground := Go.Ground.gcOnly Go.Departure.lateStores }], guard := none }) (v := ?_) rfl (by kernel_rfl) (by kernel_rfl) (by kernel_rfl) (fun _ _ _ h => h) (Or.inl ⟨by rfl, ?_⟩) (by assumption) ?_
      rotate_left
      · intro w hSw
        go_simp
        try with_reducible rfl
      try simp only [Act.put, List.setIfInBounds_toArray, List.set_cons_zero, List.set_cons_succ]
      refine wpAnyH_ready (rs := [13]) (by kernel_rfl) (by simp) ?_
      refine AllReadyH.cons (o := { dst := none, op := Go.Op.store 24 (Go.Operand.tmp 4) (Go.Operand.tmp 25), type := 0, pos := "wide.go:33", after := #[{ on := 0, ground := Go.Ground.data }, { on := 10, ground := Go.Ground.chain }, { on := 0, ground := Go.Ground.phase }, { on := 1, ground := Go.Ground.textOnly Go.Departure.lateStores }, { on := 2, ground := Go.Ground.textOnly Go.Departure.lateStoresUnsure }, { on := 3, ground := Go.Ground.textOnly Go.Departure.lateStores }, { on := 4, ground := Go.Ground.textOnly Go.Departure.lateStoresUnsure }, { on := 5, ground := Go.Ground.textOnly Go.Departure.lateStores }, { on := 6, ground := Go.Ground.textOnly Go.Departure.lateStores }, { on := 7, ground := Go.Ground.textOnly Go.Departure.lateStores }, { on := 8, ground := Go.Ground.textOnly Go.Departure.lateStoresUnsure }, { on := 9, ground := Go.Ground.textOnly Go.Departure.lateStores }, { on := 10, ground := Go.Ground.textOnly Go.Departure.lateStoresUnsure }, { on := 11, ground := Go.Ground.textOnly Go.Departure.lateStores }, { on := 12, ground := Go.Ground.textOnly Go.Departure.lateStores }], guard := none }) rfl (fun K hK => ?_) AllReadyH.nil
      have hA3 := after_store hHeld
      obtain ⟨z, hz⟩ := hHeld.2.2.2.1
      have k0 := hz.cell 0 (by omega)
      have k1 := hz.cell 1 (by omega)
      have k2 := hz.cell 2 (by omega)
      have k3 := hz.cell 3 (by omega)
      have f0 := hz.frozen 0
      have f1 := hz.frozen 1
      have f2 := hz.frozen 2
      have f3 := hz.frozen 3
      clear hz
      go_simp
      refine hK.out _ _ ?_ (fun hHeld2 => ?_)
      · exact hA3.1
      clear hK K hHeld
      have hHeld := hHeld2
      clear hHeld2
      try simp only [Act.put, List.setIfInBounds_toArray, List.set_cons_zero, List.set_cons_succ]
      refine wpAnyH_take (i := 14) (oi := { dst := some 5, op := Go.Op.assign (Go.Operand.tmp 37), type := 4, pos := "wide.go:33", after := #[{ on := 12, ground := Go.Ground.data }, { on := 13, ground := Go.Ground.chain }, { on := 0, ground := Go.Ground.phase }, { on := 1, ground := Go.Ground.phase }, { on := 2, ground := Go.Ground.phase }, { on := 3, ground := Go.Ground.phase }, { on := 4, ground := Go.Ground.phase }, { on := 5, ground := Go.Ground.phase }, { on := 6, ground := Go.Ground.phase }, { on := 7, ground := Go.Ground.phase }, { on := 8, ground := Go.Ground.phase }, { on := 9, ground := Go.Ground.phase }, { on := 10, ground := Go.Ground.phase }, { on := 11, ground := Go.Ground.phase }, { on := 12, ground := Go.Ground.phase }, { on := 13, ground := Go.Ground.phase }], guard := none }) (v := ?_) rfl (by kernel_rfl) (by kernel_rfl) (by kernel_rfl) (fun _ _ _ h => h) (Or.inl ⟨by rfl, ?_⟩) (by assumption) ?_
      rotate_left
      · intro w hSw
        go_simp
        try with_reducible rfl
      try simp only [Act.put, List.setIfInBounds_toArray, List.set_cons_zero, List.set_cons_succ]
      refine wpAnyH_done (by kernel_rfl) ?_ _
      clear k0 k1 k2 k3 f0 f1 f2 f3 hHeld
      refine NoPanic.normal ?_
      obtain ⟨hA4, hZ⟩ := hA3
      gi_wp2
      obtain ⟨W3, hW3⟩ : ∃ W3, ((((W2.setCell ⟨N + 1 + 1, 0, none⟩ (.int .u64 (R.1 0))).setCell ⟨N + 1 + 1, 1, none⟩ (.int .u64 (R.1 1))).setCell ⟨N + 1 + 1, 2, none⟩ (.int .u64 (R.1 2))).setCell ⟨N + 1 + 1, 3, none⟩ (.int .u64 (R.1 3))) = W3 := ⟨_, rfl⟩
      rw [hW3] at hA4 hZ ⊢
      have hK2 := hA4.2.2.2.2.1
      refine ⟨by simp, .inl ⟨_, _, rfl, run_takeDeferred hK2, ?_⟩⟩
      have hZ2 : At4 (W3.putObj D (.deferred none)) (N + 1 + 1) R.1 := At4.own (N + 1 + 1) (fun (_ : Unit) => R.1) () _ _ _ hZ (grownBy_putObj' _ D (.deferred none)) (fun r e => by cases e; exact ⟨_, hK2, rfl⟩)
      have k0 := hZ2.cell 0 (by omega)
      have k1 := hZ2.cell 1 (by omega)
      have k2 := hZ2.cell 2 (by omega)
      have k3 := hZ2.cell 3 (by omega)
      refine ⟨.tuple #[.agg #[.int .u64 (R.1 0), .int .u64 (R.1 1), .int .u64 (R.1 2), .int .u64 (R.1 3)], .bool (false)], by simp [results, Try.results10, go_sem, k0, k1, k2, k3] <;> (cases qr <;> cases qa <;> rfl), by rw [hg2]; rfl, ?_⟩
      rw [hN]
      exact hA4.2.2.2.2.2.trans (belowK_b (w := W1) (by omega) _ D _ _ hD hK2 rfl rfl)
  case stop =>
    rintro D c pre W _ _ h _
    exact h.elim

end Go.Proofs.Ytecgclkjglkkbaa
