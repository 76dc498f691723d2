/- Texts of the seat, joined. -/
import Derived.Test.YtlioffkonfkflaaGreatZz14
import Derived.Test.YtlioffkonfkflaaGreatZz37
import Derived.Deep.Slices
import Derived.ReadAgain
import Derived.Carry
/- Lists of intervals among a law's arguments: how they read, and that they read again. -/
namespace Go.Proofs.YtlioffkonfkflaaGreat
open Go Go.ChangeShapes Go.WideShapes Go.ChangeAt Go.RowKit
set_option linter.unusedSimpArgs false
set_option linter.unusedVariables false

section
variable {H : Type} {enc : TypeId × Value → H} {P : Program} {w w' : World} {base : Nat} {spare : Nat → Bool} {held : Bool}
theorem trodAll_five {t0 t1 t2 t3 t4 : TypeId} {args : Array Value} {ds : List (DataW H)} {ps : List MemPlace} (h : DataW.TrodAll enc P w base spare held [t0, t1, t2, t3, t4] args.toList ds ps) :
    ∃ v0 v1 v2 v3 v4 d0 d1 d2 d3 d4 p0 p1 p2 p3 p4, args = #[v0, v1, v2, v3, v4] ∧ ds = [d0, d1, d2, d3, d4] ∧ ps = p0 ++ (p1 ++ (p2 ++ (p3 ++ p4))) ∧ DataW.Trod enc P w base spare held t0 v0 d0 p0 ∧ DataW.Trod enc P w base spare held t1 v1 d1 p1 ∧ DataW.Trod enc P w base spare held t2 v2 d2 p2 ∧ DataW.Trod enc P w base spare held t3 v3 d3 p3 ∧ DataW.Trod enc P w base spare held t4 v4 d4 p4 := by
  obtain ⟨v0, a1, d0, b1, p0, q0, hargs, rfl, rfl, h0, r0⟩ := trodAll_cons h
  obtain ⟨v1, a2, d1, b2, p1, q1, rfl, rfl, rfl, h1, r1⟩ := trodAll_cons r0
  obtain ⟨v2, a3, d2, b3, p2, q2, rfl, rfl, rfl, h2, r2⟩ := trodAll_cons r1
  obtain ⟨v3, a4, d3, b4, p3, q3, rfl, rfl, rfl, h3, r3⟩ := trodAll_cons r2
  obtain ⟨v4, a5, d4, b5, p4, q4, rfl, rfl, rfl, h4, r4⟩ := trodAll_cons r3
  obtain ⟨rfl, rfl, rfl⟩ := trodAll_nil r4
  exact ⟨v0, v1, v2, v3, v4, d0, d1, d2, d3, d4, p0, p1, p2, p3, p4, by cases args; simp_all, rfl, by simp, h0, h1, h2, h3, h4⟩
theorem trodAll_carry : ∀ {ts : List TypeId} {vs : List Value} {ds : List (DataW H)} {ps : List MemPlace}, DataW.TrodAll enc P w base spare held ts vs ds ps → (∀ q ∈ ps, w.sameAt w' q) → DataW.TrodAll enc P w' base spare held ts vs ds ps
  | [], _, _, _, h, _ => by
    obtain ⟨rfl, rfl, rfl⟩ := trodAll_nil h
    exact trodAll_mk0
  | _ :: _, _, _, _, h, hs => by
    obtain ⟨v, vs1, d, ds1, a, b, rfl, rfl, rfl, ⟨n, h1⟩, h2⟩ := trodAll_cons h
    exact ⟨a, b, ⟨n, DataW.trod_carry n _ _ _ h1 (fun q hq => hs q (List.mem_append_left _ hq))⟩, trodAll_carry h2 (fun q hq => hs q (List.mem_append_right _ hq)), rfl⟩
end

set_option maxRecDepth 100000 in
theorem kids : Kids Tryz.prog (· < Tryz.prog.types.size) := kids_rows (by kernel_rfl) (by kernel_rfl)
set_option maxRecDepth 100000 in
theorem full : ∀ t e, t < Tryz.prog.types.size → Tryz.prog.underlying t = some (.slice e) → 0 < Tryz.prog.cellsOf e := slices_full_of Tryz.prog (by kernel_rfl)
/-- What was read is read again, where the call laid new memory alone. -/
theorem args_again {H : Type} {enc : TypeId × Value → H} {W W' : World} {ts : List TypeId} {vs : List Value} {ds : List (DataW H)} {ps : List MemPlace} (hT : ∀ t ∈ ts, t < Tryz.prog.types.size)
    (hA : DataW.TrodAll enc Tryz.prog W 0 (fun _ => true) true ts vs ds ps) (hb : Below W.heap.size W W') (hlt : ∀ q ∈ ps, q.block < W.heap.size) {sp : Nat → Bool} (hs : ∀ q ∈ ps, sp q.block = true) :
    DataW.TrodAll enc Tryz.prog W' 0 sp true ts vs ds ps :=
  (trodAll_carry hA (fun q hq => hb.same (hlt q hq))).respare kids full hT hs

theorem open_cells {H : Type} {enc : TypeId × Value → H} {W : World} {base n : Nat} {cs : List Value} {x : DataW H × List MemPlace} (h : DataW.trod enc Tryz.prog W base (fun _ => true) true n 23 cs = some x) : ∃ y : IV, cs = fl3 y := by
  obtain ⟨y0, y1, y2, m, hx, hl, hy0, hy1, hy2⟩ := Go.Deep.trod_struct3 Tryz.underlying23 h
  rw [Tryz.cells23] at hl
  obtain ⟨c0, c1, c2, rfl⟩ := list3 cs hl
  simp only [Tryz.cells3, Tryz.cells4] at hy0 hy1 hy2
  obtain ⟨x0, e0, _, _⟩ := DataW.trod_int Tryz.underlying3 hy0
  obtain ⟨x1, e1, _, _⟩ := DataW.trod_int Tryz.underlying3 hy1
  obtain ⟨x2, e2, _⟩ := DataW.trod_bool Tryz.underlying4 hy2
  simp at e0 e1 e2
  subst e0 e1 e2
  exact ⟨(x0, x1, x2), rfl⟩
theorem cell_at {w : World} {b o : Nat} {v : Value} (h : w.cell? ⟨b, o, none⟩ = some v) : ∃ c T fr, w.heap[b]? = some (.cells c T fr) ∧ c[o]? = some v := by
  unfold World.cell? at h
  split at h
  · rename_i c T fr hc
    exact ⟨c, T, fr, hc, by simpa using h⟩
  · cases h
theorem add_none (b o n : Nat) : (⟨b, o, none⟩ : Addr).add n = ⟨b, o + n, none⟩ := by
  unfold Addr.add
  split
  · rename_i h; subst h; rfl
  · rfl
/-- Cells of intervals, one by one. -/
theorem cw_get (off : Nat) (L : List IV) {j : Nat} {v : Value} (hj : off ≤ j) (h : (cw off L)[j]? = some v) : ∃ i k x, L[i]? = some x ∧ k < 3 ∧ j = off + (i * 3 + k) ∧ (fl3 x)[k]? = some v := by
  have h' : (List.replicate off ud ++ L.flatMap fl3)[j]? = some v := by
    rw [← h]
    show _ = (Array.mk _)[j]?
    simp only [List.getElem?_toArray]
  rw [List.getElem?_append_right (by rw [List.length_replicate]; exact hj), List.length_replicate] at h'
  have key : ∀ (L : List IV) (m : Nat), (L.flatMap fl3)[m]? = some v → ∃ i k x, L[i]? = some x ∧ k < 3 ∧ m = i * 3 + k ∧ (fl3 x)[k]? = some v := by
    intro L
    induction L with
    | nil => intro m hm; simp at hm
    | cons y r ih =>
      intro m hm
      rw [List.flatMap_cons] at hm
      by_cases hm3 : m < 3
      · rw [List.getElem?_append_left (by show m < 3; exact hm3)] at hm
        exact ⟨0, m, y, rfl, hm3, by omega, hm⟩
      · rw [List.getElem?_append_right (by show 3 ≤ m; omega)] at hm
        obtain ⟨i, k, x, h1, h2, h3, h4⟩ := ih (m - 3) hm
        exact ⟨i + 1, k, x, h1, h2, by omega, h4⟩
  obtain ⟨i, k, x, h1, h2, h3, h4⟩ := key L _ h'
  exact ⟨i, k, x, h1, h2, by omega, h4⟩
set_option maxRecDepth 100000 in
theorem open_list {H : Type} {enc : TypeId × Value → H} {W : World} {base : Nat} {v : Value} {d : DataW H} {p : List MemPlace}
    (hv : Value.okWide Tryz.prog W .any base 24 v) (h : DataW.Trod enc Tryz.prog W 0 (fun _ => true) true 24 v d p) :
    v = .slice none 0 0 ∨ ∃ (b off cap : Nat) (L : List IV), v = slw b off L.length cap ∧ L.length ≤ cap ∧ cap ≤ maxLen ∧ WinAt off (cw off L) W.heap[b]? := by
  obtain ⟨fuel, hf⟩ := h
  have hv' : Cell.ok Tryz.prog W .any base 24 v := by
    unfold Value.okWide at hv
    rw [Tryz.underlying24] at hv
    unfold Cell.okWide at hv
    rw [Tryz.underlying24] at hv
    exact hv
  have hv2 : v = .slice none 0 0 ∨ ∃ a len cap, v = .slice (some a) len cap ∧ W.has Tryz.prog .any base a 23 cap := by
    unfold Cell.ok at hv'
    rw [Tryz.underlying24] at hv'
    cases v with
    | slice a len cap =>
      cases a with
      | none =>
        cases len with
        | zero =>
          cases cap with
          | zero => exact .inl rfl
          | succ c => exact hv'.elim
        | succ l => exact hv'.elim
      | some a => exact .inr ⟨a, len, cap, rfl, hv'.2.2⟩
    | _ => exact hv'.elim
  rcases hv2 with rfl | ⟨a, len, cap, rfl, hv2⟩
  · exact .inl rfl
  · obtain ⟨-, hspot, row, cells, hsh, -⟩ := hv2
    obtain ⟨b, off, spot⟩ := a
    simp only at hspot
    subst hspot
    right
    have hcs : (Value.slice (some ⟨b, off, none⟩) len cap).cells.toList = [.slice (some ⟨b, off, none⟩) len cap] := rfl
    rw [hcs] at hf
    rcases Go.Deep.open_slice Tryz.underlying24 hf with ⟨h0, _⟩ | ⟨a, len', cap', m, n, D, Pl, h0, _, hl, hm, hmm, _, hx⟩
    · simp at h0
    · simp only [List.cons.injEq, Value.slice.injEq, Option.some.injEq, and_true] at h0
      obtain ⟨ha, hle, hce⟩ := h0
      subst ha; subst hle; subst hce
      simp only [if_true] at hmm
      rw [hmm] at hx
      rw [Tryz.cells23] at hx
      obtain ⟨f, hfx⟩ := Go.Deep.choose_lt (α := IV) (n := len) (p := fun i x => W.cells? 0 ((⟨b, off, none⟩ : Addr).add (i * 3)) 3 = some (fl3 x)) (fun i hi => by
        obtain ⟨cs', c1, c2⟩ := hx i (by omega)
        obtain ⟨x, rfl⟩ := open_cells c2
        exact ⟨x, c1⟩)
      refine ⟨b, off, cap, (List.range len).map f, by simp, by simpa using hl, hm, ?_⟩
      obtain ⟨c, T, fr, hb⟩ : ∃ c T fr, W.heap[b]? = some (.cells c T fr) := by
        unfold World.shape? at hsh
        simp only at hsh
        split at hsh
        · rename_i c T fr hc; exact ⟨c, T, fr, hc⟩
        · cases hsh
      refine ⟨c, T, fr, hb, fun j v hj hc => ?_⟩
      obtain ⟨i, k, x, h1, h2, h3, h4⟩ := cw_get off _ hj hc
      have hi : i < len := by
        have := (List.getElem?_eq_some_iff.1 h1).1
        simpa using this
      have hxe : x = f i := by
        rw [List.getElem?_map, List.getElem?_range hi] at h1
        simpa using h1.symm
      subst hxe
      obtain ⟨_, _, hk⟩ := World.cells?_some (hfx i hi)
      have hk2 := hk k h2
      rw [h4, add_none, add_none, Nat.add_assoc, ← h3] at hk2
      obtain ⟨c', T', fr', e1, e2⟩ := cell_at hk2
      rw [hb] at e1
      simp only [Option.some.injEq, Obj.cells.injEq] at e1
      rw [e1.1]
      exact e2

end Go.Proofs.YtlioffkonfkflaaGreat
