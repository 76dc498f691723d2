/- Contracts of Blank, longer, runeMarks and Number of package words, for every input. -/
import Derived.Test.YtbdiphffdmakoaaDoorW2
namespace Go.Proofs.YtbdiphffdmakoaaDoor
open Go Go.RowKit Go.MapKept

/-- Is a rune a blank? -/
def blankB (c : Int) : Bool := kindR c == 1

set_option maxRecDepth 100000 in
set_option maxHeartbeats 400000 in
theorem blank_any (c : Int) (w : World) :
    Calls Tryd.prog 16 #[.int .i32 c] w fun e w' => e = .returned (.bool (blankB c)) ∧ w' = w.alloc (.map kindEs 7) := by
  have hb := (heap_alloc w (.map kindEs 7)).1
  have HB := Lib.hid hb
  clear hb
  by_cases h : kindR c = 1
  · have h1 : ((kindR c : Int) == 1) = true := by rw [h]; rfl
    have H : Hid (blankB c = true) := Lib.hid (by simp [blankB, h])
    clear h
    go_enter Tryd.func16, Tryd.ntmps16
    go_wp2_with (first | (go_at_call 23; refine (runeKinds_any _).mono ?_; rintro e w' ⟨rfl, rfl⟩) | (go_at_call 24; refine (kindOf_any _ _ _ HB.out).mono ?_; rintro e w' ⟨rfl, rfl⟩))
    go_ret
    rw [H.out]
    exact ⟨rfl, rfl⟩
  · have h1 : ((kindR c : Int) == 1) = false := by simp; omega
    have H : Hid (blankB c = false) := Lib.hid (by simp [blankB, h])
    clear h
    go_enter Tryd.func16, Tryd.ntmps16
    go_wp2_with (first | (go_at_call 23; refine (runeKinds_any _).mono ?_; rintro e w' ⟨rfl, rfl⟩) | (go_at_call 24; refine (kindOf_any _ _ _ HB.out).mono ?_; rintro e w' ⟨rfl, rfl⟩))
    go_ret
    rw [H.out]
    exact ⟨rfl, rfl⟩

/-- A digit behind a number. -/
def longerN (size worth : Nat) : Nat := if 1152921504606846976 < size then size else size * 10 + worth

set_option maxRecDepth 100000 in
set_option maxHeartbeats 400000 in
theorem longer_any (a b : Nat) (w : World) (ha : a < 18446744073709551616) (hb : b ≤ 9) :
    Calls Tryd.prog 29 #[.int .u64 a, .int .u64 b] w fun e w' => e = .returned (.int .u64 (longerN a b)) ∧ w = w' := by
  by_cases h : 1152921504606846976 < a
  · have H : Hid (longerN a b = a) := Lib.hid (by simp [longerN, h])
    go_enter Tryd.func29, Tryd.ntmps29
    go_wp2
    go_ret
    rw [H.out]
    exact ⟨rfl, rfl⟩
  · have H : Hid (longerN a b = a * 10 + b) := Lib.hid (by simp [longerN, h])
    have h1 : IntKind.u64.wrap ((a : Int) * 10) = (a : Int) * 10 := IntWalk.u64_in _ (by omega)
    have h2 : IntKind.u64.wrap ((a : Int) * 10 + b) = (a : Int) * 10 + b := IntWalk.u64_in _ (by omega)
    go_enter Tryd.func29, Tryd.ntmps29
    go_wp2
    go_ret
    rw [H.out]
    exact ⟨by simp, rfl⟩

/-! ### A map in whatever block -/

/-- The world with block b holding o. -/
def _root_.Go.World.putAt (w : World) (b : Nat) (o : Obj) : World := { w with heap := w.heap.setIfInBounds b o }

theorem putAt_heap (w : World) (b : Nat) (o : Obj) (h : b < w.heap.size) : (w.putAt b o).heap[b]? = some o := by simp [World.putAt, h]
theorem putAt_other (w : World) (b j : Nat) (o : Obj) (h : j ≠ b) : (w.putAt b o).heap[j]? = w.heap[j]? := by simp [World.putAt, Ne.symm h]
theorem putAt_size (w : World) (b : Nat) (o : Obj) : (w.putAt b o).heap.size = w.heap.size := by simp [World.putAt]
theorem below_putAt {B : Nat} {a w : World} (h : Below B a w) {b : Nat} (hb : B ≤ b) (o : Obj) : Below B a (w.putAt b o) :=
  h.trans ⟨rfl, rfl, rfl, by rw [putAt_size]; exact Nat.le_refl _, fun i hi => putAt_other w b i o (by omega)⟩

theorem run_put_at {P : Program} (w : World) (b : Nat) (t k e : TypeId) (q : IntKind) (es : Array MapEntry) (clock : Nat) (c : Int) (val : Value)
    (ht : P.underlying t = some (.map k e)) (hk : P.underlying k = some (.int q)) (hb : w.heap[b]? = some (.map es clock)) (hf : Instr.findNow (.int q) (.int q c) es.toList 0 = some none) :
    (Instr.mapUpdate t (.map (some b)) (.int q c) val).run P w = .ok () (w.putAt b (.map (es.push { key := .int q c, val := val, born := clock }) (clock + 1))) := by
  simp [Instr.mapUpdate, run_underlying ht, MapKept.run_getObj_map hb, run_checkKey hk (k := .int q c) rfl, run_findKey hk hf, MapKept.run_setObj_map _ hb, Result.andThen]
  rfl

theorem find_none (q : IntKind) (c : Int) : ∀ (l : List MapEntry) (i : Nat), (∀ e ∈ l, ∃ a : Int, e.key = .int q a ∧ a ≠ c) → Instr.findNow (.int q) (.int q c) l i = some none
  | [], _, _ => rfl
  | e :: l, i, h => by
    obtain ⟨a, ha, hne⟩ := h e (by simp)
    have h1 : (c == a) = false := by simpa using (fun h => hne h.symm)
    simp only [Instr.findNow, ha, Instr.sameNow, if_true, h1]
    exact find_none q c l (i + 1) (fun e he => h e (by simp [he]))

/-! ### The map of marks -/

def markE (c : Int) (k w : Nat) (b : Nat) : MapEntry := { key := .int .i32 c, val := .agg #[.int .u8 k, .int .u64 w], born := b }

def markL (k : Nat) : List MapEntry := [markE 45 2 0 0, markE 8722 2 0 1] ++ (List.range k).flatMap fun (d : Nat) => [markE (48 + d) 1 d (2 + 2 * d), markE (65296 + d) 1 d (3 + 2 * d)]

theorem markL_succ (k : Nat) : markL (k + 1) = (markL k ++ [markE (48 + k) 1 k (2 + 2 * k)]) ++ [markE (65296 + k) 1 k (3 + 2 * k)] := by
  simp [markL, List.range_succ, List.flatMap_append]

theorem markL_mem (k : Nat) (e : MapEntry) (h : e ∈ markL k) : ∃ a : Int, e.key = .int .i32 a ∧ (a = 45 ∨ a = 8722 ∨ (48 ≤ a ∧ a < 48 + k) ∨ (65296 ≤ a ∧ a < 65296 + k)) := by
  simp only [markL, List.mem_append, List.mem_cons, List.mem_flatMap, List.mem_range, List.not_mem_nil, or_false] at h
  rcases h with (rfl | rfl) | ⟨d, hd, rfl | rfl⟩
  · exact ⟨45, rfl, by omega⟩
  · exact ⟨8722, rfl, by omega⟩
  · exact ⟨48 + d, rfl, by omega⟩
  · exact ⟨65296 + d, rfl, by omega⟩

/-- What a rune is in a number's text, and a digit's worth: 2 a minus, 1 a digit, 0 none of both. -/
def markR (c : Int) : Nat × Nat := if c = 45 ∨ c = 8722 then (2, 0) else if 48 ≤ c ∧ c ≤ 57 then (1, (c - 48).toNat) else if 65296 ≤ c ∧ c ≤ 65305 then (1, (c - 65296).toNat) else (0, 0)

theorem markR_le (c : Int) : (markR c).2 ≤ 9 := by
  unfold markR
  split
  · simp
  · split
    · simp; omega
    · split
      · simp; omega
      · simp

theorem look_mark (w : World) (b : Nat) (c : Int) (hb : w.heap[b]? = some (.map (markL 10).toArray 22)) :
    (Instr.lookup 58 (.map (some b)) (.int .i32 c) false).run Tryd.prog w = .ok (.agg #[.int .u8 (markR c).1, .int .u64 (markR c).2]) w := by
  by_cases h0 : c = 45 ∨ c = 8722 ∨ (48 ≤ c ∧ c < 58) ∨ (65296 ≤ c ∧ c < 65306)
  · have : ∃ j, Instr.findNow (.int .i32) (.int .i32 c) (markL 10).toArray.toList 0 = some (some (j, .agg #[.int .u8 (markR c).1, .int .u64 (markR c).2])) := by
      have hc : c = 45 ∨ c = 8722 ∨ (c = 48 ∨ c = 49 ∨ c = 50 ∨ c = 51 ∨ c = 52 ∨ c = 53 ∨ c = 54 ∨ c = 55 ∨ c = 56 ∨ c = 57) ∨ (c = 65296 ∨ c = 65297 ∨ c = 65298 ∨ c = 65299 ∨ c = 65300 ∨ c = 65301 ∨ c = 65302 ∨ c = 65303 ∨ c = 65304 ∨ c = 65305) := by omega
      rcases hc with rfl | rfl | (rfl | rfl | rfl | rfl | rfl | rfl | rfl | rfl | rfl | rfl) | (rfl | rfl | rfl | rfl | rfl | rfl | rfl | rfl | rfl | rfl) <;> exact ⟨_, rfl⟩
    obtain ⟨j, hj⟩ := this
    exact run_look_found w 58 21 63 .i32 b _ 22 c j _ false und58 und21 hb hj
  · have hn : Instr.findNow (.int .i32) (.int .i32 c) (markL 10).toArray.toList 0 = some none := by
      refine find_none .i32 c _ 0 fun e he => ?_
      obtain ⟨a, ha, hr⟩ := markL_mem 10 e (by simpa using he)
      exact ⟨a, ha, by omega⟩
    have hz : markR c = (0, 0) := by
      unfold markR
      rw [if_neg (by omega), if_neg (by omega), if_neg (by omega)]
    rw [hz]
    exact run_look_none w 58 21 63 .i32 b _ 22 c _ false und58 und21 hb hn (zero63 w)

theorem mark_round1 (w wr : World) (k : Nat) (hk : k < 10) (hm : wr.heap[w.heap.size]? = some (.map (markL k).toArray (2 + 2 * k))) (hB : Below w.heap.size w wr) :
    ∃ w1 : World, (Instr.mapUpdate 58 (.map (some w.heap.size)) (.int .i32 (48 + (k : Int))) (.agg #[.int .u8 1, .int .u64 k])).run Tryd.prog (wr.alloc (.cells #[.int .u8 1, .int .u64 k] 63)) = .ok () w1 ∧
      w1.heap[w.heap.size]? = some (.map (markL k ++ [markE (48 + k) 1 k (2 + 2 * k)]).toArray (3 + 2 * k)) ∧ Below w.heap.size w w1 ∧ w1.cell? ⟨wr.heap.size, 0, none⟩ = some (.int .u8 1) ∧ w1.cell? ⟨wr.heap.size, 1, none⟩ = some (.int .u64 k) ∧ w1.heap.size = wr.heap.size + 1 := by
  have hlt : w.heap.size < wr.heap.size := (Array.getElem?_eq_some_iff.1 hm).1
  have hm1 : (wr.alloc (.cells #[.int .u8 1, .int .u64 k] 63)).heap[w.heap.size]? = some (.map (markL k).toArray (2 + 2 * k)) := ((heap_alloc wr _).2 _ hlt).trans hm
  have hp1 := run_put_at (P := Tryd.prog) (wr.alloc (.cells #[.int .u8 1, .int .u64 k] 63)) w.heap.size 58 21 63 .i32 (markL k).toArray (2 + 2 * k) (48 + k) (.agg #[.int .u8 1, .int .u64 k]) und58 und21 hm1
        (find_none .i32 _ _ 0 fun e he => by obtain ⟨a, ha, hr⟩ := markL_mem k e (by simpa using he); exact ⟨a, ha, by omega⟩)
  have hn := (heap_alloc wr (.cells #[.int .u8 1, .int .u64 k] 63)).1
  refine ⟨_, hp1, ?_, below_putAt (hB.alloc hB.size _) (Nat.le_refl _) _, ?_, ?_, ?_⟩
  · rw [putAt_heap _ _ _ (by simp; omega)]
    simp only [List.push_toArray, markE]
    rw [show 2 + 2 * k + 1 = 3 + 2 * k by omega]
    rfl
  · rw [World.cell?_of_block (putAt_other _ _ _ _ (by simp; omega))]
    simp only [World.cell?, hn]
    rfl
  · rw [World.cell?_of_block (putAt_other _ _ _ _ (by simp; omega))]
    simp only [World.cell?, hn]
    rfl
  · rw [putAt_size]; simp

theorem mark_round2 (w w1 : World) (k : Nat) (hk : k < 10) (hm : w1.heap[w.heap.size]? = some (.map (markL k ++ [markE (48 + k) 1 k (2 + 2 * k)]).toArray (3 + 2 * k))) (hB : Below w.heap.size w w1) :
    ∃ w2 : World, (Instr.mapUpdate 58 (.map (some w.heap.size)) (.int .i32 (65296 + (k : Int))) (.agg #[.int .u8 1, .int .u64 k])).run Tryd.prog w1 = .ok () w2 ∧
      w2.heap[w.heap.size]? = some (.map (markL (k + 1)).toArray (2 + 2 * (k + 1))) ∧ Below w.heap.size w w2 := by
  have hlt : w.heap.size < w1.heap.size := (Array.getElem?_eq_some_iff.1 hm).1
  have hp := run_put_at (P := Tryd.prog) w1 w.heap.size 58 21 63 .i32 (markL k ++ [markE (48 + k) 1 k (2 + 2 * k)]).toArray (3 + 2 * k) (65296 + k) (.agg #[.int .u8 1, .int .u64 k]) und58 und21 hm
        (find_none .i32 _ _ 0 fun e he => by
          have he' : e ∈ markL k ∨ e = markE (48 + k) 1 k (2 + 2 * k) := by simpa using he
          rcases he' with he | rfl
          · obtain ⟨a, ha, hr⟩ := markL_mem k e he; exact ⟨a, ha, by omega⟩
          · exact ⟨48 + k, rfl, by omega⟩)
  refine ⟨_, hp, ?_, below_putAt hB (Nat.le_refl _) _⟩
  rw [putAt_heap _ _ _ hlt, markL_succ]
  simp only [List.push_toArray, markE]
  rw [show 3 + 2 * k + 1 = 2 + 2 * (k + 1) by omega]
  rfl

set_option maxRecDepth 100000 in
set_option maxHeartbeats 1000000 in
theorem runeMarks_any (w : World) :
    Calls Tryd.prog 28 #[] w fun e w' => e = .returned (.map (some w.heap.size)) ∧ w'.heap[w.heap.size]? = some (.map (markL 10).toArray 22) ∧ Below w.heap.size w w' := by
  have hmm := @run_makeMap Tryd.prog
  have h0 := run_put_new (P := Tryd.prog) w 58 21 63 .i32 #[] 0 45 (.agg #[.int .u8 2, .int .u64 0]) und58 und21 rfl
  have h1 := run_put_new (P := Tryd.prog) w 58 21 63 .i32 #[{ key := .int .i32 45, val := .agg #[.int .u8 2, .int .u64 0], born := 0 }] 1 8722 (.agg #[.int .u8 2, .int .u64 0]) und58 und21 rfl
  simp only [List.push_toArray, List.nil_append, List.cons_append, Nat.reduceAdd] at h0 h1
  go_enter Tryd.func28, Tryd.ntmps28
  go_wp2
  clear h0 h1
  go_loopw [8] (fun i wr => ∃ k : Nat, k ≤ 10 ∧ i = .int .i64 k ∧ wr.heap[w.heap.size]? = some (.map (markL k).toArray (2 + 2 * k)) ∧ Below w.heap.size w wr) (fun i _ => 10 - (intOf i).toNat)
  case atStart => exact ⟨0, by omega, rfl, (heap_alloc w _).1, (Below.refl _ _).alloc (Nat.le_refl _) _⟩
  case round =>
    obtain ⟨k, hk, rfl, hm, hB⟩ := hrel
    have hsz := hB.size
    have hlt : w.heap.size < wr.heap.size := (Array.getElem?_eq_some_iff.1 hm).1
    by_cases hk10 : k < 10
    · obtain ⟨w1, hp1, hm2, hB1, hc0, hc1, hs1⟩ := mark_round1 w wr k hk10 hm hB
      obtain ⟨w2, hp2, hm3, hB2⟩ := mark_round2 w w1 k hk10 hm2 hB1
      clear hm2 hm
      have HM := Lib.hid hm3
      clear hm3
      go_wp2
      go_roundw
      case rel => exact ⟨k + 1, by omega, by go_num, HM.out, hB2⟩
      case measure => simp [intOf]; omega
    · go_wp2
      go_ret
      obtain rfl : k = 10 := by omega
      exact ⟨rfl, hm, hB⟩

/-! ### Number -/

/-- What Number keeps of a row of runes: size, digits, below; none: no number's text. -/
def numF : List (Nat × Nat × Nat) → Nat → Nat → Bool → Option (Nat × Nat × Bool)
  | [], size, digits, below => some (size, digits, below)
  | (p, c, _) :: r, size, digits, below =>
    if (markR c).1 = 2 ∧ p = 0 then numF r size digits true
    else if (markR c).1 = 1 ∧ digits < 20 then numF r (longerN size (markR c).2) (digits + 1) below
    else none

def numOut : Option (Nat × Nat × Bool) → Int × Int
  | none => (0, 12)
  | some (size, digits, below) => if digits = 0 then (0, 12) else if 1152921504606846976 < size then (0, 20) else if below then (-(size : Int), 0) else ((size : Int), 0)

/-- What Number answers. -/
def numR (s : ByteArray) : Int × Int := numOut (numF (runes s) 0 0 false)

theorem longerN_lt (a b : Nat) (ha : a < 18446744073709551616) (hb : b ≤ 9) : longerN a b < 18446744073709551616 := by
  unfold longerN; split <;> omega

theorem iterPos_of {w : World} {k : Nat} {s : ByteArray} {pos : Nat} (h : w.heap[k]? = some (.stringIter s pos)) : w.iterPos k = pos := by
  simp [World.iterPos, h]

/-- The next rune, the world behind it under one name. -/
theorem next_any (w wr : World) (n b k : Nat) (o : Obj) (s : ByteArray) (pos : Nat) (hk : wr.heap[k]? = some (.stringIter s pos)) (hp : pos < s.size) (hb : wr.heap[b]? = some o) (hbk : b ≠ k) (hn : n ≤ k) (hB : Below n w wr) :
    ∃ w2 : World, (∀ ty, (Instr.next (.pointer (some ⟨k, 0, none⟩)) true ty).run Tryd.prog wr = .ok (.tuple #[.bool true, .int .i64 pos, .int .i32 (Utf8.decode s pos).1]) w2) ∧
      w2.heap[k]? = some (.stringIter s (pos + (Utf8.decode s pos).2)) ∧ w2.heap[b]? = some o ∧ Below n w w2 ∧ w2.heap.size = wr.heap.size :=
  ⟨_, fun ty => Lib.run_next_any_at wr k s pos ty hk hp, Lib.iterAt_heap wr k s pos _ hk, (Lib.iterAt_other wr k b s _ hbk).trans hb, Lib.below_iterAt hB hn s _, Lib.iterAt_size _ _ _ _⟩

theorem markR_cases (c : Int) : markR c = (2, 0) ∨ (∃ d, d ≤ 9 ∧ markR c = (1, d)) ∨ markR c = (0, 0) := by
  have h := markR_le c
  unfold markR at h ⊢
  split
  · exact .inl rfl
  · split
    · rename_i h1 h2
      rw [if_neg h1, if_pos h2] at h
      exact .inr (.inl ⟨_, h, rfl⟩)
    · split
      · rename_i h1 h2 h3
        rw [if_neg h1, if_neg h2, if_pos h3] at h
        exact .inr (.inl ⟨_, h, rfl⟩)
      · exact .inr (.inr rfl)

theorem numF_minus {p c k a b : Nat} {e : Bool} {r : List (Nat × Nat × Nat)} (hm : markR c = (2, 0)) (hp : p = 0) : numF ((p, c, k) :: r) a b e = numF r a b true := by
  simp [numF, hm, hp]
theorem numF_minus_not {p c k a b : Nat} {e : Bool} {r : List (Nat × Nat × Nat)} (hm : markR c = (2, 0)) (hp : ¬ p = 0) : numF ((p, c, k) :: r) a b e = none := by
  simp [numF, hm, hp]
theorem numF_digit {p c k a b d : Nat} {e : Bool} {r : List (Nat × Nat × Nat)} (hm : markR c = (1, d)) (hb : b < 20) : numF ((p, c, k) :: r) a b e = numF r (longerN a d) (b + 1) e := by
  simp [numF, hm, hb]
theorem numF_digit_not {p c k a b d : Nat} {e : Bool} {r : List (Nat × Nat × Nat)} (hm : markR c = (1, d)) (hb : ¬ b < 20) : numF ((p, c, k) :: r) a b e = none := by
  simp [numF, hm, hb]
theorem numF_none {p c k a b : Nat} {e : Bool} {r : List (Nat × Nat × Nat)} (hm : markR c = (0, 0)) : numF ((p, c, k) :: r) a b e = none := by
  simp [numF, hm]

theorem look_mark_at (w : World) (b : Nat) (c : Int) (k d : Nat) (hb : w.heap[b]? = some (.map (markL 10).toArray 22)) (hm : markR c = (k, d)) :
    (Instr.lookup 58 (.map (some b)) (.int .i32 c) false).run Tryd.prog w = .ok (.agg #[.int .u8 k, .int .u64 d]) w := by
  rw [look_mark w b c hb, hm]

def NumRel (s : ByteArray) (w w1 : World) (v5 v6 v7 : Value) (wr : World) : Prop :=
  ∃ (pos b size digits : Nat) (below : Bool), v5 = .int .u64 size ∧ v6 = .int .i64 digits ∧ v7 = .bool below ∧ size < 18446744073709551616 ∧ digits ≤ 20 ∧
    numF (runesF s b pos) size digits below = numF (runes s) 0 0 false ∧ s.size ≤ pos + b ∧ wr.heap[w.heap.size]? = some (.map (markL 10).toArray 22) ∧ wr.heap[w1.heap.size]? = some (.stringIter s pos) ∧ Below w.heap.size w wr

set_option maxRecDepth 100000 in
set_option maxHeartbeats 2000000 in
theorem number_any (s : ByteArray) (w : World) (hs : s.size ≤ maxLen) :
    Calls Tryd.prog 11 #[.string s] w fun e w' => e = .returned (.tuple #[.int .i64 (numR s).1, .int .i64 (numR s).2]) ∧ Below w.heap.size w w' := by
  unfold maxLen at hs
  go_enter Tryd.func11, Tryd.ntmps11
  go_wp2_with (go_at_call 28; refine (runeMarks_any _).mono ?_; rintro e w1 ⟨rfl, hm, hB⟩)
  have hw1 : w.heap.size < w1.heap.size := (Array.getElem?_eq_some_iff.1 hm).1
  have hstart : NumRel s w w1 (.int .u64 0) (.int .i64 0) (.bool false) (w1.iter s 0) :=
    ⟨0, s.size, 0, 0, false, rfl, rfl, rfl, by omega, by omega, rfl, by omega, ((heap_alloc w1 _).2 _ hw1).trans hm, w1.iter_heap s 0, hB.alloc hB.size _⟩
  clear hm hB
  go_loopw [5, 6, 7] (fun v5 v6 v7 wr => NumRel s w w1 v5 v6 v7 wr) (fun _ _ _ wr => s.size - wr.iterPos w1.heap.size)
  case atStart => exact hstart
  case round =>
    clear hstart
    obtain ⟨pos, b, size, digits, below, rfl, rfl, rfl, hsz, hdg, hf, hb, hm, hi, hB⟩ := hrel
    have HI := Lib.hid hi
    have HF := Lib.hid hf
    clear hf
    by_cases hp : pos < s.size
    · obtain ⟨w2, hnx, hi2, hm2, hB2, hs2⟩ := next_any w wr w.heap.size w.heap.size w1.heap.size _ s pos hi hp hm (by omega) (by omega) hB
      have hwd := width_pos s pos hp
      have hpos : pos ≤ 9223372036854775807 := by omega
      cases b with
      | zero => omega
      | succ b =>
      have HF' : Hid (numF ((pos, (Utf8.decode s pos).1, (Utf8.decode s pos).2) :: runesF s b (pos + (Utf8.decode s pos).2)) size digits below = numF (runes s) 0 0 false) := Lib.hid (by rw [← HF.out]; simp [runesF, hp])
      have HM2 := Lib.hid hm2
      have HI2 := Lib.hid hi2
      have HS2 := Lib.hid hs2
      clear hi hm hB hm2 hi2 hs2 HF
      have hwl : w.heap.size < w2.heap.size := (Array.getElem?_eq_some_iff.1 HM2.out).1
      have hil : w1.heap.size < w2.heap.size := (Array.getElem?_eq_some_iff.1 HI2.out).1
      rcases markR_cases (Utf8.decode s pos).1 with hmk | ⟨d, hd, hmk⟩ | hmk
      · have hl : _ = Result.ok (Value.agg #[.int .u8 2, .int .u64 0]) w2 := look_mark_at w2 w.heap.size (Utf8.decode s pos).1 2 0 HM2.out hmk
        by_cases hp0 : pos = 0
        · have hp1 : ((pos : Int) == 0) = true := by simp [hp0]
          have H2 : Hid (numF (runesF s b (pos + (Utf8.decode s pos).2)) size digits true = numF (runes s) 0 0 false) := Lib.hid (by rw [← HF'.out]; exact (numF_minus hmk hp0).symm)
          clear hmk hp0
          go_wp2
          go_roundw
          case rel => exact ⟨_, b, size, digits, true, rfl, rfl, rfl, hsz, hdg, H2.out, by omega, ((heap_alloc w2 _).2 _ hwl).trans HM2.out, ((heap_alloc w2 _).2 _ hil).trans HI2.out, hB2.alloc hB2.size _⟩
          case measure => rw [iterPos_of HI.out, iterPos_of (((heap_alloc w2 _).2 _ hil).trans HI2.out)]; omega
        · have hp1 : ((pos : Int) == 0) = false := by simp; omega
          have H2 : Hid (numR s = (0, 12)) := Lib.hid (by unfold numR; rw [← HF'.out, numF_minus_not hmk hp0]; rfl)
          clear hmk hp0
          go_wp2
          go_ret2
          rw [H2.out]
          exact ⟨rfl, hB2.alloc hB2.size _⟩
      · have hl : _ = Result.ok (Value.agg #[.int .u8 1, .int .u64 d]) w2 := look_mark_at w2 w.heap.size (Utf8.decode s pos).1 1 d HM2.out hmk
        by_cases hdl : digits < 20
        · have H2 : Hid (numF (runesF s b (pos + (Utf8.decode s pos).2)) (longerN size d) (digits + 1) below = numF (runes s) 0 0 false) := Lib.hid (by rw [← HF'.out]; exact (numF_digit hmk hdl).symm)
          have hll := longerN_lt size d hsz hd
          clear hmk
          go_wp2_with (go_at_call 29; refine (longer_any _ _ _ hsz hd).mono ?_; rintro e w' ⟨rfl, rfl⟩)
          go_roundw
          case rel => exact ⟨_, b, longerN size d, digits + 1, below, rfl, by go_num, rfl, hll, by omega, H2.out, by omega, ((heap_alloc w2 _).2 _ hwl).trans HM2.out, ((heap_alloc w2 _).2 _ hil).trans HI2.out, hB2.alloc hB2.size _⟩
          case measure => rw [iterPos_of HI.out, iterPos_of (((heap_alloc w2 _).2 _ hil).trans HI2.out)]; omega
        · have H2 : Hid (numR s = (0, 12)) := Lib.hid (by unfold numR; rw [← HF'.out, numF_digit_not hmk hdl]; rfl)
          clear hmk
          go_wp2
          go_ret2
          rw [H2.out]
          exact ⟨rfl, hB2.alloc hB2.size _⟩
      · have hl : _ = Result.ok (Value.agg #[.int .u8 0, .int .u64 0]) w2 := look_mark_at w2 w.heap.size (Utf8.decode s pos).1 0 0 HM2.out hmk
        have H2 : Hid (numR s = (0, 12)) := Lib.hid (by unfold numR; rw [← HF'.out, numF_none hmk]; rfl)
        clear hmk
        go_wp2
        go_ret2
        rw [H2.out]
        exact ⟨rfl, hB2.alloc hB2.size _⟩
    · have hnx := fun ty => Lib.run_next_end_at (P := Tryd.prog) wr w1.heap.size s pos ty hi hp
      have H1 : Hid (numR s = numOut (some (size, digits, below))) := Lib.hid (by unfold numR; rw [← HF.out, runesF_end s b pos hp]; rfl)
      clear HF hi hm
      by_cases hd0 : digits = 0
      · have h1 : ((digits : Int) == 0) = true := by simp [hd0]
        have H2 : Hid (numR s = (0, 12)) := Lib.hid (by rw [H1.out]; simp [numOut, hd0])
        clear hd0
        go_wp2
        go_ret2
        rw [H2.out]
        exact ⟨rfl, hB⟩
      · have h1 : ((digits : Int) == 0) = false := by simp; omega
        by_cases hov : 1152921504606846976 < size
        · have H2 : Hid (numR s = (0, 20)) := Lib.hid (by rw [H1.out]; simp [numOut, hd0, hov])
          clear hd0
          go_wp2
          go_ret2
          rw [H2.out]
          exact ⟨rfl, hB⟩
        · cases below with
          | true =>
            have H2 : Hid (numR s = (-(size : Int), 0)) := Lib.hid (by rw [H1.out]; simp [numOut, hd0, hov])
            clear hd0
            go_wp2
            go_ret2
            rw [H2.out]
            exact ⟨rfl, hB⟩
          | false =>
            have H2 : Hid (numR s = ((size : Int), 0)) := Lib.hid (by rw [H1.out]; simp [numOut, hd0, hov])
            clear hd0
            go_wp2
            go_ret2
            rw [H2.out]
            exact ⟨rfl, hB⟩

end Go.Proofs.YtbdiphffdmakoaaDoor
