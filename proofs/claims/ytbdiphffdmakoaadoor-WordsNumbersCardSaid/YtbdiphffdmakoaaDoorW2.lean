/- Contracts of runeKinds, kindOf, Blank, longer, runeMarks of package words, for every input: a map that is known entry by entry. -/
import Derived.Test.YtbdiphffdmakoaaDoorW1
import Derived.IntWalk
namespace Go.Proofs.YtbdiphffdmakoaaDoor
open Go Go.RowKit Go.MapKept

section
variable {P : Program}

theorem run_put_new (w : World) (t k e : TypeId) (q : IntKind) (es : Array MapEntry) (clock : Nat) (c : Int) (val : Value)
    (ht : P.underlying t = some (.map k e)) (hk : P.underlying k = some (.int q)) (hf : Instr.findNow (.int q) (.int q c) es.toList 0 = some none) :
    (Instr.mapUpdate t (.map (some w.heap.size)) (.int q c) val).run P (w.alloc (.map es clock)) = .ok () (w.alloc (.map (es.push { key := .int q c, val := val, born := clock }) (clock + 1))) := by
  have hb := (heap_alloc w (.map es clock)).1
  have hset : (w.alloc (.map es clock)).heap.setIfInBounds w.heap.size (.map (es.push { key := .int q c, val := val, born := clock }) (clock + 1)) = w.heap.push (.map (es.push { key := .int q c, val := val, born := clock }) (clock + 1)) := by
    show (w.heap.push _).setIfInBounds _ _ = _
    apply Array.ext'
    simp [Array.toList_push]
  simp [Instr.mapUpdate, run_underlying ht, MapKept.run_getObj_map hb, run_checkKey hk (k := .int q c) rfl, run_findKey hk hf, MapKept.run_setObj_map _ hb, Result.andThen, hset]
  rfl

theorem run_look_found (w : World) (t k e : TypeId) (q : IntKind) (b : Nat) (es : Array MapEntry) (clock : Nat) (c : Int) (j : Nat) (v : Value) (ok : Bool)
    (ht : P.underlying t = some (.map k e)) (hk : P.underlying k = some (.int q)) (hb : w.heap[b]? = some (.map es clock)) (hf : Instr.findNow (.int q) (.int q c) es.toList 0 = some (some (j, v))) :
    (Instr.lookup t (.map (some b)) (.int q c) ok).run P w = .ok (if ok then .tuple #[v, .bool true] else v) w := by
  simp [Instr.lookup, run_underlying ht, MapKept.run_getObj_map hb, run_checkKey hk (k := .int q c) rfl, run_findKey hk hf, Result.andThen]

theorem run_look_none (w : World) (t k e : TypeId) (q : IntKind) (b : Nat) (es : Array MapEntry) (clock : Nat) (c : Int) (z : Value) (ok : Bool)
    (ht : P.underlying t = some (.map k e)) (hk : P.underlying k = some (.int q)) (hb : w.heap[b]? = some (.map es clock)) (hf : Instr.findNow (.int q) (.int q c) es.toList 0 = some none)
    (hz : (zeroValue e).run P w = .ok z w) :
    (Instr.lookup t (.map (some b)) (.int q c) ok).run P w = .ok (if ok then .tuple #[z, .bool false] else z) w := by
  simp [Instr.lookup, run_underlying ht, MapKept.run_getObj_map hb, run_checkKey hk (k := .int q c) rfl, run_findKey hk hf, hz, Result.andThen]
end

def kindEs : Array MapEntry := #[{ key := .int .i32 32, val := .int .u8 1, born := 0 }, { key := .int .i32 9, val := .int .u8 1, born := 1 }, { key := .int .i32 10, val := .int .u8 1, born := 2 }, { key := .int .i32 160, val := .int .u8 1, born := 3 },
  { key := .int .i32 12288, val := .int .u8 1, born := 4 }, { key := .int .i32 127, val := .int .u8 2, born := 5 }, { key := .int .i32 65533, val := .int .u8 2, born := 6 }]

/-- What a rune is: 1 a blank, 2 one that may not stand, 0 one of a word's. -/
def kindR (c : Int) : Nat := if c = 32 ∨ c = 9 ∨ c = 10 ∨ c = 160 ∨ c = 12288 then 1 else if c = 127 ∨ c = 65533 ∨ c < 32 then 2 else 0

theorem und48 : Tryd.prog.underlying 48 = some (.map 21 50) := by kernel_rfl
theorem und58 : Tryd.prog.underlying 58 = some (.map 21 63) := by kernel_rfl
theorem und21 : Tryd.prog.underlying 21 = some (.int .i32) := by kernel_rfl
theorem zero50 (w : World) : (zeroValue 50).run Tryd.prog w = .ok (.int .u8 0) w := by kernel_rfl
theorem zero63 (w : World) : (zeroValue 63).run Tryd.prog w = .ok (.agg #[.int .u8 0, .int .u64 0]) w := by kernel_rfl

set_option maxRecDepth 100000 in
set_option maxHeartbeats 400000 in
theorem runeKinds_any (w : World) :
    Calls Tryd.prog 23 #[] w fun e w' => e = .returned (.map (some w.heap.size)) ∧ w' = w.alloc (.map kindEs 7) := by
  have hmm := @run_makeMap Tryd.prog
  have h0 := run_put_new (P := Tryd.prog) w 48 21 50 .i32 #[] 0 32 (.int .u8 1) und48 und21 rfl
  have h1 := run_put_new (P := Tryd.prog) w 48 21 50 .i32 #[{ key := .int .i32 32, val := .int .u8 1, born := 0 }] 1 9 (.int .u8 1) und48 und21 rfl
  have h2 := run_put_new (P := Tryd.prog) w 48 21 50 .i32 #[{ key := .int .i32 32, val := .int .u8 1, born := 0 }, { key := .int .i32 9, val := .int .u8 1, born := 1 }] 2 10 (.int .u8 1) und48 und21 rfl
  have h3 := run_put_new (P := Tryd.prog) w 48 21 50 .i32 #[{ key := .int .i32 32, val := .int .u8 1, born := 0 }, { key := .int .i32 9, val := .int .u8 1, born := 1 }, { key := .int .i32 10, val := .int .u8 1, born := 2 }] 3 160 (.int .u8 1) und48 und21 rfl
  have h4 := run_put_new (P := Tryd.prog) w 48 21 50 .i32 #[{ key := .int .i32 32, val := .int .u8 1, born := 0 }, { key := .int .i32 9, val := .int .u8 1, born := 1 }, { key := .int .i32 10, val := .int .u8 1, born := 2 }, { key := .int .i32 160, val := .int .u8 1, born := 3 }] 4 12288 (.int .u8 1) und48 und21 rfl
  have h5 := run_put_new (P := Tryd.prog) w 48 21 50 .i32 #[{ key := .int .i32 32, val := .int .u8 1, born := 0 }, { key := .int .i32 9, val := .int .u8 1, born := 1 }, { key := .int .i32 10, val := .int .u8 1, born := 2 }, { key := .int .i32 160, val := .int .u8 1, born := 3 }, { key := .int .i32 12288, val := .int .u8 1, born := 4 }] 5 127 (.int .u8 2) und48 und21 rfl
  have h6 := run_put_new (P := Tryd.prog) w 48 21 50 .i32 #[{ key := .int .i32 32, val := .int .u8 1, born := 0 }, { key := .int .i32 9, val := .int .u8 1, born := 1 }, { key := .int .i32 10, val := .int .u8 1, born := 2 }, { key := .int .i32 160, val := .int .u8 1, born := 3 }, { key := .int .i32 12288, val := .int .u8 1, born := 4 }, { key := .int .i32 127, val := .int .u8 2, born := 5 }] 6 65533 (.int .u8 2) und48 und21 rfl
  simp only [List.push_toArray, List.nil_append, List.cons_append, Nat.reduceAdd] at h0 h1 h2 h3 h4 h5 h6
  go_enter Tryd.func23, Tryd.ntmps23
  go_wp2
  go_ret
  exact ⟨rfl, rfl⟩

theorem find_kind (c : Int) : Instr.findNow (.int .i32) (.int .i32 c) kindEs.toList 0 =
    if c = 32 then some (some (0, .int .u8 1)) else if c = 9 then some (some (1, .int .u8 1)) else if c = 10 then some (some (2, .int .u8 1)) else if c = 160 then some (some (3, .int .u8 1)) else
    if c = 12288 then some (some (4, .int .u8 1)) else if c = 127 then some (some (5, .int .u8 2)) else if c = 65533 then some (some (6, .int .u8 2)) else some none := by
  by_cases a0 : c = 32
  · subst a0; rfl
  by_cases a1 : c = 9
  · subst a1; rfl
  by_cases a2 : c = 10
  · subst a2; rfl
  by_cases a3 : c = 160
  · subst a3; rfl
  by_cases a4 : c = 12288
  · subst a4; rfl
  by_cases a5 : c = 127
  · subst a5; rfl
  by_cases a6 : c = 65533
  · subst a6; rfl
  have e0 : (c == 32) = false := by simpa using a0
  have e1 : (c == 9) = false := by simpa using a1
  have e2 : (c == 10) = false := by simpa using a2
  have e3 : (c == 160) = false := by simpa using a3
  have e4 : (c == 12288) = false := by simpa using a4
  have e5 : (c == 127) = false := by simpa using a5
  have e6 : (c == 65533) = false := by simpa using a6
  simp [kindEs, Instr.findNow, Instr.sameNow, a0, a1, a2, a3, a4, a5, a6, e0, e1, e2, e3, e4, e5, e6]

/-- The look-up in the map of kinds, whatever the rune. -/
theorem look_kind (w : World) (b : Nat) (c : Int) (hb : w.heap[b]? = some (.map kindEs 7)) :
    (∃ v : Nat, (Instr.lookup 48 (.map (some b)) (.int .i32 c) true).run Tryd.prog w = .ok (.tuple #[.int .u8 v, .bool true]) w ∧ kindR c = v) ∨
    ((Instr.lookup 48 (.map (some b)) (.int .i32 c) true).run Tryd.prog w = .ok (.tuple #[.int .u8 0, .bool false]) w ∧ kindR c = if c < 32 then 2 else 0) := by
  have hf := find_kind c
  by_cases h1 : c = 32 ∨ c = 9 ∨ c = 10 ∨ c = 160 ∨ c = 12288
  · left
    refine ⟨1, ?_, by simp [kindR, h1]⟩
    have : ∃ j, Instr.findNow (.int .i32) (.int .i32 c) kindEs.toList 0 = some (some (j, .int .u8 1)) := by
      rw [hf]
      rcases h1 with rfl | rfl | rfl | rfl | rfl <;> exact ⟨_, rfl⟩
    obtain ⟨j, hj⟩ := this
    exact run_look_found w 48 21 50 .i32 b kindEs 7 c j _ true und48 und21 hb hj
  · by_cases h2 : c = 127 ∨ c = 65533
    · left
      refine ⟨2, ?_, by rcases h2 with rfl | rfl <;> rfl⟩
      have : ∃ j, Instr.findNow (.int .i32) (.int .i32 c) kindEs.toList 0 = some (some (j, .int .u8 2)) := by
        rw [hf]
        rcases h2 with rfl | rfl <;> exact ⟨_, rfl⟩
      obtain ⟨j, hj⟩ := this
      exact run_look_found w 48 21 50 .i32 b kindEs 7 c j _ true und48 und21 hb hj
    · right
      simp only [not_or] at h1 h2
      have hn : Instr.findNow (.int .i32) (.int .i32 c) kindEs.toList 0 = some none := by
        rw [hf]; simp [h1, h2]
      refine ⟨run_look_none w 48 21 50 .i32 b kindEs 7 c _ true und48 und21 hb hn (zero50 w), ?_⟩
      unfold kindR
      simp [h1, h2]

set_option maxRecDepth 100000 in
set_option maxHeartbeats 400000 in
theorem kindOf_any (b : Nat) (c : Int) (w : World) (hb : w.heap[b]? = some (.map kindEs 7)) :
    Calls Tryd.prog 24 #[.map (some b), .int .i32 c] w fun e w' => e = .returned (.int .u8 (kindR c)) ∧ w = w' := by
  rcases look_kind w b c hb with ⟨v, hl, hv⟩ | ⟨hl, hv⟩
  · have HV := Lib.hid hv
    clear hv hb
    go_enter Tryd.func24, Tryd.ntmps24
    go_wp2
    go_ret
    rw [HV.out]
    exact ⟨rfl, rfl⟩
  · clear hb
    by_cases h : c < 32
    · have HV : Hid (kindR c = 2) := Lib.hid (by rw [hv]; simp [h])
      clear hv
      go_enter Tryd.func24, Tryd.ntmps24
      go_wp2
      go_ret
      rw [HV.out]
      exact ⟨rfl, rfl⟩
    · have HV : Hid (kindR c = 0) := Lib.hid (by rw [hv]; simp [h])
      clear hv
      go_enter Tryd.func24, Tryd.ntmps24
      go_wp2
      go_ret
      rw [HV.out]
      exact ⟨rfl, rfl⟩

end Go.Proofs.YtbdiphffdmakoaaDoor
