/- Contracts of the iterator wordsOf of package words, for every text and every loop body that keeps what is no slice of words. -/
import Derived.Test.YtbdiphffdmakoaaDoorW3
import Derived.RangeFuncNested
import Derived.RangeFuncBound
import Derived.RangeFuncCalls
import Derived.RangeFuncLeaves
import Derived.RangeFuncBox
import Derived.Shelf.Abstract
import Derived.Shelf.RegionOpen
import Derived.OwnWalkIn
import Derived.TacticsInMore
import Derived.LoopNIn
import Derived.LoopIn
import Derived.Maps.AppendAt
namespace Go.Proofs.YtbdiphffdmakoaaDoor
open Go Go.RowKit Go.MapKept Go.Shelf

attribute [local go_sem] Oper.semAt_some

/-- The words of a row of runes: place, first byte, end; from a state: at, begin, n, inside. -/
def wordsF (s : ByteArray) : List (Nat × Nat × Nat) → Nat → Nat → Nat → Bool → List (Nat × ByteArray)
  | [], at', begin', _, inside => if inside then [(at', s.extract begin' s.size)] else []
  | (p, c, _) :: r, at', begin', n, inside =>
    if inside then (if kindR c = 1 then (at', s.extract begin' p) :: wordsF s r at' begin' (n + 1) false else wordsF s r at' begin' (n + 1) true)
    else (if kindR c = 1 then wordsF s r at' begin' (n + 1) false else wordsF s r n p (n + 1) true)

def wordsR (s : ByteArray) : List (Nat × ByteArray) := wordsF s (runes s) 0 0 0 false

def wordV (x : Nat × ByteArray) : Value := .agg #[.int .i64 x.1, .string x.2]

/-- What a round keeps: whatever is a map, an iterator, or cells of another type than words and slices of words. -/
def keepO : Obj → Bool
  | .cells _ t _ => t != 38 && t != 24
  | o => o.isWalk

def Kp (W W' : World) : Prop := W.heap.size ≤ W'.heap.size ∧ ∀ (k : Nat) (o : Obj), W.heap[k]? = some o → keepO o = true → W'.heap[k]? = some o

theorem Kp.trans {A B C : World} (h : Kp A B) (k : Kp B C) : Kp A C := ⟨Nat.le_trans h.1 k.1, fun i o hi ho => k.2 i o (h.2 i o hi ho) ho⟩
theorem Kp.refl (A : World) : Kp A A := ⟨Nat.le_refl _, fun _ _ h _ => h⟩
theorem Kp.alloc (A : World) (o : Obj) : Kp A (A.alloc o) := ⟨by simp, fun i x hi _ => ((heap_alloc A o).2 i (Array.getElem?_eq_some_iff.1 hi).1).trans hi⟩
theorem Kp.grown {A B : World} {row : Option Nat} (hg : A.grownBy B row) (hr : ∀ r, row = some r → ∃ o : Obj, A.heap[r]? = some o ∧ keepO o = false) : Kp A B :=
  ⟨hg.size, fun i o hi ho => by
    have hlt := (Array.getElem?_eq_some_iff.1 hi).1
    rw [hg.block i hlt ?_]
    · exact hi
    · intro e
      obtain ⟨o', h1, h2⟩ := hr i e.symm
      rw [hi] at h1
      cases h1
      rw [ho] at h2
      cases h2⟩

def ItRel (s : ByteArray) (K Bt Bk bm : Nat) (J : List (Nat × ByteArray) → World → Prop) (v4 v5 v6 v7 : Value) (wr : World) : Prop :=
  ∃ (pos b at' begin' n : Nat) (inside : Bool) (pre : List (Nat × ByteArray)), v4 = .int .i64 at' ∧ v5 = .int .i64 begin' ∧ v6 = .bool inside ∧ v7 = .int .i64 n ∧
    pre ++ wordsF s (runesF s b pos) at' begin' n inside = wordsR s ∧ s.size ≤ pos + b ∧ begin' ≤ pos ∧ begin' ≤ s.size ∧ n ≤ pos ∧
    wr.heap[K]? = some (.stringIter s pos) ∧ Boxed wr Bt 9 (.string s) ∧ Boxed wr Bk 48 (.map (some bm)) ∧ wr.heap[bm]? = some (.map kindEs 7) ∧ J pre wr

theorem it_next (s : ByteArray) (K Bt Bk bm B0 pos : Nat) (J : List (Nat × ByteArray) → World → Prop) (hJ : AbidesFrom B0 J) (hB : B0 ≤ K) (pre : List (Nat × ByteArray)) (wr : World) (hp : pos < s.size)
    (hi : wr.heap[K]? = some (.stringIter s pos)) (hT : Boxed wr Bt 9 (.string s)) (hK : Boxed wr Bk 48 (.map (some bm))) (hM : wr.heap[bm]? = some (.map kindEs 7)) (hj : J pre wr) :
    ∃ w2 : World, (∀ ty, (Instr.next (.pointer (some ⟨K, 0, none⟩)) true ty).run Tryd.prog wr = .ok (.tuple #[.bool true, .int .i64 pos, .int .i32 (Utf8.decode s pos).1]) w2) ∧
      w2.heap[K]? = some (.stringIter s (pos + (Utf8.decode s pos).2)) ∧ Boxed w2 Bt 9 (.string s) ∧ Boxed w2 Bk 48 (.map (some bm)) ∧ w2.heap[bm]? = some (.map kindEs 7) ∧ J pre w2 := by
  have n1 : Bt ≠ K := by intro e; subst e; rw [show wr.heap[Bt]? = _ from hT] at hi; cases hi
  have n2 : Bk ≠ K := by intro e; subst e; rw [show wr.heap[Bk]? = _ from hK] at hi; cases hi
  have n3 : bm ≠ K := by intro e; subst e; rw [hM] at hi; cases hi
  refine ⟨_, fun ty => Lib.run_next_any_at wr K s pos ty hi hp, Lib.iterAt_heap wr K s pos _ hi, (Lib.iterAt_other wr K Bt s _ n1).trans hT, (Lib.iterAt_other wr K Bk s _ n2).trans hK, (Lib.iterAt_other wr K bm s _ n3).trans hM, ?_⟩
  refine hJ _ wr _ (some K) hj ⟨rfl, rfl, rfl, by rw [Lib.iterAt_size]; exact Nat.le_refl _, fun k _ hk => Lib.iterAt_other wr K k s _ (fun e => hk (by rw [e]))⟩ ?_
  intro r e
  cases e
  exact ⟨hB, _, hi, rfl⟩

theorem kind_one {c : Int} (h : kindR c = 1) : ((kindR c : Int) == 1) = true := by rw [h]; rfl
theorem kind_one_not {c : Int} (h : ¬ kindR c = 1) : ((kindR c : Int) == 1) = false := by simp; omega

set_option maxRecDepth 100000 in
set_option maxHeartbeats 2000000 in
theorem words1_in (n : Nat) (hn : 1 ≤ n) (l Bt Bk bm : Nat) (s : ByteArray) (hs : s.size ≤ 1000000000) (J Jx : List (Nat × ByteArray) → World → Prop) (W : World) (hJ : AbidesFrom W.heap.size J)
    (hY : ∀ pre x W1, J pre W1 → pre.length < (wordsR s).length → YieldAt Fence.wide (n - 1) Tryd.prog l #[wordV x] W1 fun e W' =>
      (e = .returned (.bool true) ∧ J (pre ++ [x]) W' ∧ Kp W1 W') ∨ (e = .returned (.bool false) ∧ Jx (pre ++ [x]) W'))
    (hT : Boxed W Bt 9 (.string s)) (hK : Boxed W Bk 48 (.map (some bm))) (hM : W.heap[bm]? = some (.map kindEs 7)) (h0 : J [] W) :
    CallsIn Fence.wide n Tryd.prog 33 #[.func (.yield l) #[] #[], .pointer (some ⟨Bt, 0, none⟩), .pointer (some ⟨Bk, 0, none⟩)] W fun e W' => (∃ v, e = .returned v) ∧
      ((∃ ys, ys = wordsR s ∧ J ys W') ∨ (∃ pre, True ∧ Jx pre W')) := by
  have cT := hT.cell
  refine callsIn_of_wp Tryd.func33 rfl trivial ?_ rfl
  simp only [Tryd.ntmps33, List.size_toArray, List.length_cons, List.length_nil, Nat.reduceAdd, Nat.reduceSub, Array.replicate_succ, Array.replicate_zero, List.push_toArray, List.append_toArray, List.nil_append, List.cons_append]
  gi_wp2
  have hstart : ItRel s W.heap.size Bt Bk bm J (.int .i64 0) (.int .i64 0) (.bool false) (.int .i64 0) (W.iter s 0) :=
    ⟨0, s.size, 0, 0, 0, false, [], rfl, rfl, rfl, rfl, rfl, by omega, by omega, by omega, by omega, W.iter_heap s 0, hT.alloc _, hK.alloc _, ((heap_alloc W _).2 _ (Array.getElem?_eq_some_iff.1 hM).1).trans hM,
      hJ _ _ _ none h0 (World.grownBy_alloc W _ none) (fun r e => by cases e)⟩
  clear hT hK hM h0 cT
  gi_loopw [4, 5, 6, 7] (fun v4 v5 v6 v7 wr => ItRel s W.heap.size Bt Bk bm J v4 v5 v6 v7 wr) (fun _ _ _ _ wr => s.size - wr.iterPos W.heap.size)
  case atStart => exact hstart
  case round =>
    clear hstart
    obtain ⟨pos, b, at', begin', m, inside, pre, rfl, rfl, rfl, rfl, hw, hb, hbp, hbs, hm, hi, hT, hK, hM, hj⟩ := hrel
    have HI := Lib.hid hi
    have HW := Lib.hid hw
    clear hw
    by_cases hp : pos < s.size
    · obtain ⟨w2, hnx, hi2, hT2, hK2, hM2, hj2⟩ := it_next s W.heap.size Bt Bk bm W.heap.size pos J hJ (Nat.le_refl _) pre wr hp hi hT hK hM hj
      have hwd := width_pos s pos hp
      cases b with
      | zero => omega
      | succ b =>
      have HW' : Hid (pre ++ wordsF s ((pos, (Utf8.decode s pos).1, (Utf8.decode s pos).2) :: runesF s b (pos + (Utf8.decode s pos).2)) at' begin' m inside = wordsR s) := Lib.hid (by rw [← HW.out]; simp [runesF, hp])
      have cT := hT2.cell
      have cK := hK2.cell
      have HI2 := Lib.hid hi2
      have HM2 := Lib.hid hM2
      clear hi hT hK hM hj hi2 hM2 HW
      by_cases hk : kindR (Utf8.decode s pos).1 = 1
      · have hk1 := kind_one hk
        cases inside with
        | true =>
          have hx : pre ++ (at', s.extract begin' pos) :: wordsF s (runesF s b (pos + (Utf8.decode s pos).2)) at' begin' (m + 1) false = wordsR s := by rw [← HW'.out]; simp [wordsF, hk]
          have hlen : pre.length < (wordsR s).length := by rw [← hx]; simp
          have hps : pos ≤ s.size := by omega
          obtain ⟨fn, tmps, assign, body, hy, hR⟩ := hY pre (at', s.extract begin' pos) w2 hj2 hlen
          dsimp only [wordV] at hy
          have HX := Lib.hid hx
          clear hk hx hlen
          gi_wp2_with (refine ⟨trivial, ?_⟩; gi_at_call 24; refine (callsIn_wide.2 (kindOf_any _ _ _ HM2.out)).mono ?_; rintro e w' ⟨rfl, rfl⟩)
          refine hR.mono ?_
          rintro e W3 (⟨rfl, hJ3, hk3⟩ | ⟨rfl, hJx3⟩)
          · have HI3 := Lib.hid (hk3.2 _ _ HI2.out rfl)
            have hT3 : Boxed W3 Bt 9 (.string s) := hk3.2 _ _ hT2 rfl
            have hK3 : Boxed W3 Bk 48 (.map (some bm)) := hk3.2 _ _ hK2 rfl
            have HM3 := Lib.hid (hk3.2 _ _ HM2.out rfl)
            clear cT cK hk3 hR hy
            gi_wp2
            go_roundw
            case rel => exact ⟨_, b, at', begin', m + 1, false, pre ++ [(at', s.extract begin' pos)], rfl, rfl, rfl, by go_num, by rw [← HX.out]; simp, by omega, by omega, hbs, by omega, HI3.out, hT3, hK3, HM3.out, hJ3⟩
            case measure => rw [iterPos_of HI.out, iterPos_of HI3.out]; omega
          · gi_wp2
            refine bodyPost_ret (results_none rfl _ _ _) rfl ?_
            exact ⟨⟨_, rfl⟩, .inr ⟨_, trivial, hJx3⟩⟩
        | false =>
          have hx : pre ++ wordsF s (runesF s b (pos + (Utf8.decode s pos).2)) at' begin' (m + 1) false = wordsR s := by rw [← HW'.out]; simp [wordsF, hk]
          have HX := Lib.hid hx
          clear hk hx
          gi_wp2_with (refine ⟨trivial, ?_⟩; gi_at_call 24; refine (callsIn_wide.2 (kindOf_any _ _ _ HM2.out)).mono ?_; rintro e w' ⟨rfl, rfl⟩)
          go_roundw
          case rel => exact ⟨_, b, at', begin', m + 1, false, pre, rfl, rfl, rfl, by go_num, HX.out, by omega, by omega, hbs, by omega, HI2.out, hT2, hK2, HM2.out, hj2⟩
          case measure => rw [iterPos_of HI.out, iterPos_of HI2.out]; omega
      · have hk1 := kind_one_not hk
        cases inside with
        | true =>
          have hx : pre ++ wordsF s (runesF s b (pos + (Utf8.decode s pos).2)) at' begin' (m + 1) true = wordsR s := by rw [← HW'.out]; simp [wordsF, hk]
          have HX := Lib.hid hx
          clear hk hx
          gi_wp2_with (refine ⟨trivial, ?_⟩; gi_at_call 24; refine (callsIn_wide.2 (kindOf_any _ _ _ HM2.out)).mono ?_; rintro e w' ⟨rfl, rfl⟩)
          go_roundw
          case rel => exact ⟨_, b, at', begin', m + 1, true, pre, rfl, rfl, rfl, by go_num, HX.out, by omega, by omega, hbs, by omega, HI2.out, hT2, hK2, HM2.out, hj2⟩
          case measure => rw [iterPos_of HI.out, iterPos_of HI2.out]; omega
        | false =>
          have hx : pre ++ wordsF s (runesF s b (pos + (Utf8.decode s pos).2)) m pos (m + 1) true = wordsR s := by rw [← HW'.out]; simp [wordsF, hk]
          have HX := Lib.hid hx
          clear hk hx
          gi_wp2_with (refine ⟨trivial, ?_⟩; gi_at_call 24; refine (callsIn_wide.2 (kindOf_any _ _ _ HM2.out)).mono ?_; rintro e w' ⟨rfl, rfl⟩)
          go_roundw
          case rel => exact ⟨_, b, m, pos, m + 1, true, pre, rfl, rfl, rfl, by go_num, HX.out, by omega, by omega, by omega, by omega, HI2.out, hT2, hK2, HM2.out, hj2⟩
          case measure => rw [iterPos_of HI.out, iterPos_of HI2.out]; omega
    · have hnx := fun ty => Lib.run_next_end_at (P := Tryd.prog) wr W.heap.size s pos ty hi hp
      have cT := hT.cell
      clear hi
      cases inside with
      | false =>
        have hx : pre = wordsR s := by rw [← HW.out, runesF_end s b pos hp]; simp [wordsF]
        gi_wp2
        go_end0
        exact ⟨⟨_, rfl⟩, .inl ⟨pre, hx, hj⟩⟩
      | true =>
        have hx : pre ++ [(at', s.extract begin' s.size)] = wordsR s := by rw [← HW.out, runesF_end s b pos hp]; simp [wordsF]
        have hlen : pre.length < (wordsR s).length := by rw [← hx]; simp
        obtain ⟨fn, tmps, assign, body, hy, hR⟩ := hY pre (at', s.extract begin' s.size) wr hj hlen
        dsimp only [wordV] at hy
        have HX := Lib.hid hx
        clear hx hlen
        gi_wp2
        refine hR.mono ?_
        rintro e W3 (⟨rfl, hJ3, hk3⟩ | ⟨rfl, hJx3⟩)
        · gi_wp2
          go_end0
          exact ⟨⟨_, rfl⟩, .inl ⟨_, HX.out, hJ3⟩⟩
        · gi_wp2
          go_end0
          exact ⟨⟨_, rfl⟩, .inr ⟨_, trivial, hJx3⟩⟩

/-- wordsOf: both arguments are boxed; the function value captures the boxes. -/
theorem wordsOf_any (s : ByteArray) (bm : Nat) (w : World) :
    Calls Tryd.prog 25 #[.string s, .map (some bm)] w fun e w' => e = .returned (.func (.func 33) #[] #[.pointer (some ⟨w.heap.size, 0, none⟩), .pointer (some ⟨w.heap.size + 1, 0, none⟩)]) ∧
      w' = (w.alloc (.cells #[.string s] 9)).alloc (.cells #[.map (some bm)] 48) := by
  go_enter Tryd.func25, Tryd.ntmps25
  go_wp2
  go_ret
  exact ⟨rfl, rfl⟩

theorem words_stops (n : Nat) (hn : 1 ≤ n) (Bt Bk bm : Nat) (s : ByteArray) (hs : s.size ≤ 1000000000) (w : World)
    (hT : Boxed w Bt 9 (.string s)) (hK : Boxed w Bk 48 (.map (some bm))) (hM : w.heap[bm]? = some (.map kindEs 7)) :
    SeqStopsK Fence.wide n Tryd.prog 33 #[.pointer (some ⟨Bt, 0, none⟩), .pointer (some ⟨Bk, 0, none⟩)] (fun x : Nat × ByteArray => #[wordV x]) Kp (fun ys => ys = wordsR s) (fun _ => True) (wordsR s).length w := fun l J Jx W hW hJ _ hY h0 =>
  words1_in n hn l Bt Bk bm s hs J Jx W hJ hY ((hW.block Bt hT.lt).trans hT) ((hW.block Bk hK.lt).trans hK) ((hW.block bm (Array.getElem?_eq_some_iff.1 hM).1).trans hM) h0

end Go.Proofs.YtbdiphffdmakoaaDoor
