/- Texts of the seat, joined. -/
import Derived.Test.YtpllklojcjhjaaaZz17
import Derived.Test.YtpllklojcjhjaaaRows
import Derived.ProofKit
import Derived.Laws.IdiomArrays
import Derived.OpenShut
import Derived.Below
import Derived.ChangeSame
import Derived.Deep.Slices
import Derived.Deep.Strs
import Derived.ReadAgain
import Derived.Carry
/- States, configurations, pairs and points among a law's arguments: how they read, and that they read again. -/
namespace Go.Proofs.Ytpllklojcjhjaaa
open Go Go.ChangeShapes Go.WideShapes Go.ChangeAt Go.RowKit
set_option linter.unusedSimpArgs false
set_option linter.unusedVariables false
set_option maxRecDepth 100000

theorem Try.own : ownKnob Try.prog.godebug = none := by kernel_rfl
theorem Try.cells3 : Try.prog.cellsOf 3 = 1 := by kernel_rfl
theorem Try.cells22 : Try.prog.cellsOf 22 = 1 := by kernel_rfl
theorem Try.cells24 : Try.prog.cellsOf 24 = 6 := by kernel_rfl
theorem Try.cells25 : Try.prog.cellsOf 25 = 1 := by kernel_rfl
theorem Try.cells27 : Try.prog.cellsOf 27 = 2 := by kernel_rfl
theorem Try.cells40 : Try.prog.cellsOf 40 = 3 := by kernel_rfl
theorem Try.cells42 : Try.prog.cellsOf 42 = 6 := by kernel_rfl
theorem Try.cells36 : Try.prog.cellsOf 36 = 3 := by kernel_rfl
theorem wf_i64 {x : Int} (h : (Lit.int .i64 x).wf = true) : isJ x := by
  have h1 : IntKind.i64.min = -9223372036854775808 := rfl
  have h2 : IntKind.i64.max = 9223372036854775807 := rfl
  simp [Lit.wf, h1, h2] at h
  unfold isJ
  omega
theorem list6 {α : Type} (l : List α) (h : l.length = 6) : ∃ a b c d e f, l = [a, b, c, d, e, f] := by
  match l, h with
  | [a, b, c, d, e, f], _ => exact ⟨a, b, c, d, e, f, rfl⟩
section
variable {H : Type} {enc : TypeId × Value → H} {P : Program} {w w' : World} {base : Nat} {spare : Nat → Bool} {held : Bool}
theorem trodAll_carry : ∀ {ts : List TypeId} {vs : List Value} {ds : List (DataW H)} {ps : List MemPlace}, DataW.TrodAll enc P w base spare held ts vs ds ps → (∀ q ∈ ps, w.sameAt w' q) → DataW.TrodAll enc P w' base spare held ts vs ds ps
  | [], _, _, _, h, _ => by
    obtain ⟨rfl, rfl, rfl⟩ := trodAll_nil h
    exact trodAll_mk0
  | _ :: _, _, _, _, h, hs => by
    obtain ⟨v, vs1, d, ds1, a, b, rfl, rfl, rfl, ⟨n, h1⟩, h2⟩ := trodAll_cons h
    exact ⟨a, b, ⟨n, DataW.trod_carry n _ _ _ h1 (fun q hq => hs q (List.mem_append_left _ hq))⟩, trodAll_carry h2 (fun q hq => hs q (List.mem_append_right _ hq)), rfl⟩
end
set_option maxRecDepth 100000 in
theorem kids : Kids Try.prog (· < Try.prog.types.size) := kids_rows (by kernel_rfl) (by kernel_rfl)
set_option maxRecDepth 100000 in
theorem full : ∀ t e, t < Try.prog.types.size → Try.prog.underlying t = some (.slice e) → 0 < Try.prog.cellsOf e := slices_full_of Try.prog (by kernel_rfl)
/-- What was read is read again, where the call laid new memory alone. -/
theorem args_again {H : Type} {enc : TypeId × Value → H} {W W' : World} {ts : List TypeId} {vs : List Value} {ds : List (DataW H)} {ps : List MemPlace} (hT : ∀ t ∈ ts, t < Try.prog.types.size)
    (hA : DataW.TrodAll enc Try.prog W 0 (fun _ => true) true ts vs ds ps) (hb : Below W.heap.size W W') (hlt : ∀ q ∈ ps, q.block < W.heap.size) {sp : Nat → Bool} (hs : ∀ q ∈ ps, sp q.block = true) :
    DataW.TrodAll enc Try.prog W' 0 sp true ts vs ds ps :=
  (trodAll_carry hA (fun q hq => hb.same (hlt q hq))).respare kids full hT hs

theorem cell_at {w : World} {b o : Nat} {v : Value} (h : w.cell? ⟨b, o, none⟩ = some v) : ∃ c T fr, w.heap[b]? = some (.cells c T fr) ∧ c[o]? = some v := by
  unfold World.cell? at h
  split at h
  · rename_i c T fr hc
    exact ⟨c, T, fr, hc, by simpa using h⟩
  · cases h
theorem add_none (b o n : Nat) : (⟨b, o, none⟩ : Addr).add n = ⟨b, o + n, none⟩ := by
  unfold Addr.add
  split
  · rename_i h; subst h; rfl
  · rfl
theorem flat_get {α : Type} {fl : α → List Value} {k : Nat} (hk : 0 < k) (hfl : ∀ x, (fl x).length = k) {v : Value} : ∀ (L : List α) (m : Nat), (L.flatMap fl)[m]? = some v → ∃ i r x, L[i]? = some x ∧ r < k ∧ m = i * k + r ∧ (fl x)[r]? = some v := by
  intro L
  induction L with
  | nil => intro m hm; simp at hm
  | cons y r ih =>
    intro m hm
    rw [List.flatMap_cons] at hm
    by_cases hmk : m < k
    · rw [List.getElem?_append_left (by rw [hfl]; exact hmk)] at hm
      exact ⟨0, m, y, rfl, hmk, by omega, hm⟩
    · rw [List.getElem?_append_right (by rw [hfl]; omega), hfl] at hm
      obtain ⟨i, q, x, h1, h2, h3, h4⟩ := ih (m - k) hm
      refine ⟨i + 1, q, x, h1, h2, ?_, h4⟩
      rw [Nat.add_mul]
      omega
/-- Elements that are read, one by one. -/
theorem cwx_get {α : Type} {fl : α → List Value} {k : Nat} (hk : 0 < k) (hfl : ∀ x, (fl x).length = k) (off : Nat) (L : List α) {j : Nat} {v : Value} (hj : off ≤ j) (h : (cwx fl off L)[j]? = some v) : ∃ i r x, L[i]? = some x ∧ r < k ∧ j = off + (i * k + r) ∧ (fl x)[r]? = some v := by
  have h' : (List.replicate off ud ++ L.flatMap fl)[j]? = some v := by
    rw [← h]
    show _ = (Array.mk _)[j]?
    simp only [List.getElem?_toArray]
  rw [List.getElem?_append_right (by rw [List.length_replicate]; exact hj), List.length_replicate] at h'
  obtain ⟨i, r, x, h1, h2, h3, h4⟩ := flat_get hk hfl L _ h'
  exact ⟨i, r, x, h1, h2, by omega, h4⟩
/-- A slice that is read is nil, or a window. -/
theorem open_win {α : Type} [Inhabited α] {fl : α → List Value} {k : Nat} (hk : 0 < k) (hfl : ∀ x, (fl x).length = k) {H : Type} {enc : TypeId × Value → H} {W : World} {base fuel : Nat} {t e : TypeId} {v : Value} {x : DataW H × List MemPlace}
    (ht : Try.prog.underlying t = some (.slice e)) (ce : Try.prog.cellsOf e = k)
    (dec : ∀ {n : Nat} {cs : List Value} {y : DataW H × List MemPlace}, DataW.trod enc Try.prog W 0 (fun _ => true) true n e cs = some y → ∃ z : α, cs = fl z)
    (hv : Cell.okWide Try.prog W .any base t v) (hf : DataW.trod enc Try.prog W 0 (fun _ => true) true fuel t [v] = some x) :
    v = .slice none 0 0 ∨ ∃ (b off cap : Nat) (L : List α), v = slw b off L.length cap ∧ L.length ≤ cap ∧ cap ≤ maxLen ∧ WinAt off (cwx fl off L) W.heap[b]? := by
  have hv' : Cell.ok Try.prog W .any base t v := by
    unfold Cell.okWide at hv
    rw [ht] at hv
    exact hv
  have hv2 : v = .slice none 0 0 ∨ ∃ a len cap, v = .slice (some a) len cap ∧ W.has Try.prog .any base a e cap := by
    unfold Cell.ok at hv'
    rw [ht] at hv'
    cases v with
    | slice a len cap =>
      cases a with
      | none =>
        cases len with
        | zero =>
          cases cap with
          | zero => exact .inl rfl
          | succ c => exact hv'.elim
        | succ l => exact hv'.elim
      | some a => exact .inr ⟨a, len, cap, rfl, hv'.2.2⟩
    | _ => exact hv'.elim
  rcases hv2 with rfl | ⟨a, len, cap, rfl, hv2⟩
  · exact .inl rfl
  · obtain ⟨-, hspot, row, cells, hsh, -⟩ := hv2
    obtain ⟨b, off, spot⟩ := a
    simp only at hspot
    subst hspot
    right
    rcases Go.Deep.open_slice ht hf with ⟨h0, _⟩ | ⟨a, len', cap', m, n, D, Pl, h0, _, hl, hm, hmm, _, hx⟩
    · simp at h0
    · simp only [List.cons.injEq, Value.slice.injEq, Option.some.injEq, and_true] at h0
      obtain ⟨ha, hle, hce⟩ := h0
      subst ha; subst hle; subst hce
      simp only [if_true] at hmm
      rw [hmm] at hx
      rw [ce] at hx
      obtain ⟨f, hfx⟩ := Go.Deep.choose_lt (α := α) (n := len) (p := fun i x => W.cells? 0 ((⟨b, off, none⟩ : Addr).add (i * k)) k = some (fl x)) (fun i hi => by
        obtain ⟨cs', c1, c2⟩ := hx i (by omega)
        obtain ⟨x, rfl⟩ := dec c2
        exact ⟨x, c1⟩)
      refine ⟨b, off, cap, (List.range len).map f, by simp, by simpa using hl, hm, ?_⟩
      obtain ⟨c, T, fr, hb⟩ : ∃ c T fr, W.heap[b]? = some (.cells c T fr) := by
        unfold World.shape? at hsh
        simp only at hsh
        split at hsh
        · rename_i c T fr hc; exact ⟨c, T, fr, hc⟩
        · cases hsh
      refine ⟨c, T, fr, hb, fun j v hj hc => ?_⟩
      obtain ⟨i, r, x, h1, h2, h3, h4⟩ := cwx_get hk hfl off _ hj hc
      have hi : i < len := by
        have := (List.getElem?_eq_some_iff.1 h1).1
        simpa using this
      have hxe : x = f i := by
        rw [List.getElem?_map, List.getElem?_range hi] at h1
        simpa using h1.symm
      subst hxe
      obtain ⟨_, _, hkk⟩ := World.cells?_some (hfx i hi)
      have hk2 := hkk r h2
      rw [h4, add_none, add_none, Nat.add_assoc, ← h3] at hk2
      obtain ⟨c', T', fr', e1, e2⟩ := cell_at hk2
      rw [hb] at e1
      simp only [Option.some.injEq, Obj.cells.injEq] at e1
      rw [e1.1]
      exact e2

theorem open_vec {H : Type} {enc : TypeId × Value → H} {W : World} {n : Nat} {c0 c1 c2 : Value} {x : DataW H × List MemPlace} (h : DataW.trod enc Try.prog W 0 (fun _ => true) true n 40 [c0, c1, c2] = some x) : ∃ y : P3, [c0, c1, c2] = [ii y.1, ii y.2.1, ii y.2.2] := by
  obtain ⟨y0, y1, y2, m, hx, hy0, hy1, hy2⟩ := trod_array3 Try.underlying40 Try.cells3 h
  obtain ⟨x0, e0, -, -⟩ := DataW.trod_int Try.underlying3 hy0
  obtain ⟨x1, e1, -, -⟩ := DataW.trod_int Try.underlying3 hy1
  obtain ⟨x2, e2, -, -⟩ := DataW.trod_int Try.underlying3 hy2
  simp at e0 e1 e2
  subst e0 e1 e2
  exact ⟨(x0, x1, x2), rfl⟩
theorem open_body {H : Type} {enc : TypeId × Value → H} {W : World} {n : Nat} {cs : List Value} {x : DataW H × List MemPlace} (h : DataW.trod enc Try.prog W 0 (fun _ => true) true n 42 cs = some x) : ∃ y : Bd, cs = fl6 y := by
  obtain ⟨xs, m, -, -, hl, hlen, hf⟩ := DataW.trod_struct Try.underlying42 h
  rw [Try.cells42] at hl
  obtain ⟨a, b, c, d, e, f, rfl⟩ := list6 cs hl
  have f0 : DataW.trod enc Try.prog W 0 (fun _ => true) true m 40 (([a, b, c, d, e, f].drop 0).take (Try.prog.cellsOf 40)) = xs[0]? := hf 0 _ rfl
  have f1 : DataW.trod enc Try.prog W 0 (fun _ => true) true m 40 (([a, b, c, d, e, f].drop 3).take (Try.prog.cellsOf 40)) = xs[1]? := hf 1 _ rfl
  rw [Try.cells40] at f0 f1
  match xs, hlen with
  | [x0, x1], _ =>
    obtain ⟨y0, e0⟩ := open_vec (show DataW.trod enc Try.prog W 0 (fun _ => true) true m 40 [a, b, c] = some x0 from f0)
    obtain ⟨y1, e1⟩ := open_vec (show DataW.trod enc Try.prog W 0 (fun _ => true) true m 40 [d, e, f] = some x1 from f1)
    simp only [List.cons.injEq, and_true] at e0 e1
    obtain ⟨rfl, rfl, rfl⟩ := e0
    obtain ⟨rfl, rfl, rfl⟩ := e1
    exact ⟨(y0, y1), rfl⟩
set_option maxRecDepth 100000 in
theorem state_types : Try.prog.cellTypes Try.prog.depth 27 = some [3, 25] := by kernel_rfl
set_option maxRecDepth 100000 in
theorem open_state {H : Type} {enc : TypeId × Value → H} {W : World} {base : Nat} {v : Value} {d : DataW H} {p : List MemPlace}
    (hv : Value.okWide Try.prog W .any base 27 v) (h : DataW.Trod enc Try.prog W 0 (fun _ => true) true 27 v d p) :
    ∃ (st : Int) (l : Value), isJ st ∧ v = sv st l ∧ ∃ L, LieK KB W l L := by
  obtain ⟨cs, rfl, hsz, hrow⟩ : ∃ cs, v = .agg cs ∧ cs.size = Try.prog.cellsOf 27 ∧ Row.okWide Try.prog W .any base 27 cs := by
    simpa [Value.okWide, Try.underlying27] using hv
  rw [Try.cells27] at hsz
  obtain ⟨l⟩ := cs
  match l, hsz with
  | [c0, c1], _ =>
    obtain ⟨fuel, hf⟩ := h
    obtain ⟨xs, m, -, -, hl, hlen, hx⟩ := DataW.trod_struct Try.underlying27 hf
    have f0 : DataW.trod enc Try.prog W 0 (fun _ => true) true m 3 (([c0, c1].drop 0).take (Try.prog.cellsOf 3)) = xs[0]? := hx 0 _ rfl
    have f1 : DataW.trod enc Try.prog W 0 (fun _ => true) true m 25 (([c0, c1].drop 1).take (Try.prog.cellsOf 25)) = xs[1]? := hx 1 _ rfl
    rw [Try.cells3] at f0
    rw [Try.cells25] at f1
    match xs, hlen with
    | [x0, x1], _ =>
      obtain ⟨y0, e0, -, w0⟩ := DataW.trod_int Try.underlying3 (show DataW.trod enc Try.prog W 0 (fun _ => true) true m 3 [c0] = some x0 from f0)
      simp at e0
      subst e0
      have f1' : DataW.trod enc Try.prog W 0 (fun _ => true) true m 25 [c1] = some x1 := f1
      obtain ⟨ts, ht, _, hts⟩ := hrow
      rw [state_types] at ht
      cases ht
      obtain ⟨u, hu, hok⟩ := hts 1 c1 rfl
      have hu25 : u = 25 := by simpa using hu.symm
      subst hu25
      refine ⟨y0, c1, wf_i64 w0, rfl, ?_⟩
      rcases open_win (fl := fl6) (k := 6) (by decide) (fun _ => rfl) Try.underlying25 Try.cells42 (fun h => open_body h) hok f1' with rfl | ⟨b, off, cap, L, rfl, h1, h2, h3⟩
      · exact ⟨[], .inl ⟨rfl, rfl⟩⟩
      · exact ⟨L, .inr ⟨b, off, cap, rfl, h1, h2, h3⟩⟩
set_option maxRecDepth 100000 in
theorem conf_types : Try.prog.cellTypes Try.prog.depth 24 = some [22, 3, 3, 3, 3, 3] := by kernel_rfl
set_option maxRecDepth 100000 in
theorem open_conf {H : Type} {enc : TypeId × Value → H} {W : World} {base : Nat} {v : Value} {d : DataW H} {p : List MemPlace}
    (hv : Value.okWide Try.prog W .any base 24 v) (h : DataW.Trod enc Try.prog W 0 (fun _ => true) true 24 v d p) :
    ∃ (l : Value) (g b t' q m : Int), (isJ g ∧ isJ b ∧ isJ t' ∧ isJ q ∧ isJ m) ∧ v = cv l g b t' q m ∧ ∃ L, LieK KI W l L := by
  obtain ⟨cs, rfl, hsz, hrow⟩ : ∃ cs, v = .agg cs ∧ cs.size = Try.prog.cellsOf 24 ∧ Row.okWide Try.prog W .any base 24 cs := by
    simpa [Value.okWide, Try.underlying24] using hv
  rw [Try.cells24] at hsz
  obtain ⟨l⟩ := cs
  obtain ⟨c0, c1, c2, c3, c4, c5, rfl⟩ := list6 l hsz
  obtain ⟨fuel, hf⟩ := h
  obtain ⟨xs, m, -, -, hl, hlen, hx⟩ := DataW.trod_struct Try.underlying24 hf
  have f0 : DataW.trod enc Try.prog W 0 (fun _ => true) true m 22 (([c0, c1, c2, c3, c4, c5].drop 0).take (Try.prog.cellsOf 22)) = xs[0]? := hx 0 _ rfl
  have f1 : DataW.trod enc Try.prog W 0 (fun _ => true) true m 3 (([c0, c1, c2, c3, c4, c5].drop 1).take (Try.prog.cellsOf 3)) = xs[1]? := hx 1 _ rfl
  have f2 : DataW.trod enc Try.prog W 0 (fun _ => true) true m 3 (([c0, c1, c2, c3, c4, c5].drop 2).take (Try.prog.cellsOf 3)) = xs[2]? := hx 2 _ rfl
  have f3 : DataW.trod enc Try.prog W 0 (fun _ => true) true m 3 (([c0, c1, c2, c3, c4, c5].drop 3).take (Try.prog.cellsOf 3)) = xs[3]? := hx 3 _ rfl
  have f4 : DataW.trod enc Try.prog W 0 (fun _ => true) true m 3 (([c0, c1, c2, c3, c4, c5].drop 4).take (Try.prog.cellsOf 3)) = xs[4]? := hx 4 _ rfl
  have f5 : DataW.trod enc Try.prog W 0 (fun _ => true) true m 3 (([c0, c1, c2, c3, c4, c5].drop 5).take (Try.prog.cellsOf 3)) = xs[5]? := hx 5 _ rfl
  rw [Try.cells22] at f0
  rw [Try.cells3] at f1 f2 f3 f4 f5
  match xs, hlen with
  | [x0, x1, x2, x3, x4, x5], _ =>
    obtain ⟨y1, e1, -, w1⟩ := DataW.trod_int Try.underlying3 (show DataW.trod enc Try.prog W 0 (fun _ => true) true m 3 [c1] = some x1 from f1)
    obtain ⟨y2, e2, -, w2⟩ := DataW.trod_int Try.underlying3 (show DataW.trod enc Try.prog W 0 (fun _ => true) true m 3 [c2] = some x2 from f2)
    obtain ⟨y3, e3, -, w3⟩ := DataW.trod_int Try.underlying3 (show DataW.trod enc Try.prog W 0 (fun _ => true) true m 3 [c3] = some x3 from f3)
    obtain ⟨y4, e4, -, w4⟩ := DataW.trod_int Try.underlying3 (show DataW.trod enc Try.prog W 0 (fun _ => true) true m 3 [c4] = some x4 from f4)
    obtain ⟨y5, e5, -, w5⟩ := DataW.trod_int Try.underlying3 (show DataW.trod enc Try.prog W 0 (fun _ => true) true m 3 [c5] = some x5 from f5)
    simp at e1 e2 e3 e4 e5
    subst e1 e2 e3 e4 e5
    obtain ⟨ts, ht, _, hts⟩ := hrow
    rw [conf_types] at ht
    cases ht
    obtain ⟨u, hu, hok⟩ := hts 0 c0 rfl
    have hu22 : u = 22 := by simpa using hu.symm
    subst hu22
    have f0' : DataW.trod enc Try.prog W 0 (fun _ => true) true m 22 [c0] = some x0 := f0
    refine ⟨c0, y1, y2, y3, y4, y5, ⟨wf_i64 w1, wf_i64 w2, wf_i64 w3, wf_i64 w4, wf_i64 w5⟩, rfl, ?_⟩
    rcases open_win (fl := fl1) (k := 1) (by decide) (fun _ => rfl) Try.underlying22 Try.cells3 (fun h => by
      obtain ⟨x, e, -, -⟩ := DataW.trod_int Try.underlying3 h
      exact ⟨x, e⟩) hok f0' with rfl | ⟨b, off, cap, L, rfl, h1, h2, h3⟩
    · exact ⟨[], .inl ⟨rfl, rfl⟩⟩
    · exact ⟨L, .inr ⟨b, off, cap, rfl, h1, h2, h3⟩⟩

theorem list3 {α : Type} (l : List α) (h : l.length = 3) : ∃ a b c, l = [a, b, c] := by
  match l, h with
  | [a, b, c], _ => exact ⟨a, b, c, rfl⟩
set_option maxRecDepth 100000 in
theorem open_point {H : Type} {enc : TypeId × Value → H} {W : World} {base : Nat} {v : Value} {d : DataW H} {p : List MemPlace}
    (hv : Value.okWide Try.prog W .any base 40 v) (h : DataW.Trod enc Try.prog W 0 (fun _ => true) true 40 v d p) :
    ∃ a : P3, inP a ∧ v = vv a := by
  obtain ⟨cs, rfl, hsz, _⟩ : ∃ cs, v = .agg cs ∧ cs.size = Try.prog.cellsOf 40 ∧ Row.okWide Try.prog W .any base 40 cs := by
    simpa [Value.okWide, Try.underlying40] using hv
  rw [Try.cells40] at hsz
  obtain ⟨l⟩ := cs
  obtain ⟨c0, c1, c2, rfl⟩ := list3 l hsz
  obtain ⟨fuel, hf⟩ := h
  obtain ⟨y0, y1, y2, m, hx, hy0, hy1, hy2⟩ := trod_array3 Try.underlying40 Try.cells3 hf
  obtain ⟨x0, e0, -, w0⟩ := DataW.trod_int Try.underlying3 hy0
  obtain ⟨x1, e1, -, w1⟩ := DataW.trod_int Try.underlying3 hy1
  obtain ⟨x2, e2, -, w2⟩ := DataW.trod_int Try.underlying3 hy2
  simp at e0 e1 e2
  subst e0 e1 e2
  exact ⟨(x0, x1, x2), ⟨wf_i64 w0, wf_i64 w1, wf_i64 w2⟩, rfl⟩
set_option maxRecDepth 100000 in
theorem open_pair {H : Type} {enc : TypeId × Value → H} {W : World} {base : Nat} {v : Value} {d : DataW H} {p : List MemPlace}
    (hv : Value.okWide Try.prog W .any base 36 v) (h : DataW.Trod enc Try.prog W 0 (fun _ => true) true 36 v d p) :
    ∃ i j q : Int, (isJ i ∧ isJ j ∧ isJ q) ∧ v = .agg ⟨[ii i, ii j, ii q]⟩ := by
  obtain ⟨cs, rfl, hsz, _⟩ : ∃ cs, v = .agg cs ∧ cs.size = Try.prog.cellsOf 36 ∧ Row.okWide Try.prog W .any base 36 cs := by
    simpa [Value.okWide, Try.underlying36] using hv
  rw [Try.cells36] at hsz
  obtain ⟨l⟩ := cs
  obtain ⟨c0, c1, c2, rfl⟩ := list3 l hsz
  obtain ⟨fuel, hf⟩ := h
  obtain ⟨xs, m, -, -, hl, hlen, hx⟩ := DataW.trod_struct Try.underlying36 hf
  have f0 : DataW.trod enc Try.prog W 0 (fun _ => true) true m 3 (([c0, c1, c2].drop 0).take (Try.prog.cellsOf 3)) = xs[0]? := hx 0 _ rfl
  have f1 : DataW.trod enc Try.prog W 0 (fun _ => true) true m 3 (([c0, c1, c2].drop 1).take (Try.prog.cellsOf 3)) = xs[1]? := hx 1 _ rfl
  have f2 : DataW.trod enc Try.prog W 0 (fun _ => true) true m 3 (([c0, c1, c2].drop 2).take (Try.prog.cellsOf 3)) = xs[2]? := hx 2 _ rfl
  rw [Try.cells3] at f0 f1 f2
  match xs, hlen with
  | [x0, x1, x2], _ =>
    obtain ⟨y0, e0, -, w0⟩ := DataW.trod_int Try.underlying3 (show DataW.trod enc Try.prog W 0 (fun _ => true) true m 3 [c0] = some x0 from f0)
    obtain ⟨y1, e1, -, w1⟩ := DataW.trod_int Try.underlying3 (show DataW.trod enc Try.prog W 0 (fun _ => true) true m 3 [c1] = some x1 from f1)
    obtain ⟨y2, e2, -, w2⟩ := DataW.trod_int Try.underlying3 (show DataW.trod enc Try.prog W 0 (fun _ => true) true m 3 [c2] = some x2 from f2)
    simp at e0 e1 e2
    subst e0 e1 e2
    exact ⟨y0, y1, y2, ⟨wf_i64 w0, wf_i64 w1, wf_i64 w2⟩, rfl⟩
section
variable {H : Type} {enc : TypeId × Value → H} {P : Program}
/-- The row's last step where the call laid new memory alone. -/
theorem post_of_below {f : Func} {s : ChangeSpec} {apart fresh handsOn again : Bool} {W W' : World} {args : Array Value} {v : Value} {ds gs : List (DataW H)} {before pa pv : List MemPlace}
    (hW : DataW.Whole enc P f.params.toList s.vars apart W args.toList ds gs before)
    (hres : ∀ (b : Nat) (sp : Nat → Bool) (hd : Bool), DataW.TrodAll enc P W' b sp hd f.resultTypes.toList (v.resultList f.resultTypes.size) (s.fn H (ds ++ gs)).results [])
    (hargs : ∀ sp : Nat → Bool, (∀ p ∈ before, sp p.block = true) → DataW.TrodAll enc P W' 0 sp true f.params.toList args.toList (s.fn H (ds ++ gs)).args pa)
    (hvars : ∀ sp : Nat → Bool, (∀ p ∈ before, sp p.block = true) → DataW.TrodVars enc P W' sp s.vars (s.fn H (ds ++ gs)).vars pv)
    (hps : before = pa ++ pv) (hb : Below W.heap.size W W')
    (hok : ∀ (j : Nat) (t : TypeId) (r : Value), f.resultTypes[j]? = some t → (v.resultList f.resultTypes.size)[j]? = some r → Value.okWide P W' .any 0 t r) :
    s.post enc P f apart fresh handsOn again W args v W' := by
  have hlt : ∀ p ∈ before, p.block < W.heap.size := fun p hp => hW.lt p hp
  have hold : ∀ p ∈ before, (fun b => decide (b < W.heap.size)) p.block = true := fun p hp => by simpa using hlt p hp
  refine ⟨ds, gs, before, [], pa, pv, hW, hres _ _ _, hargs _ hold, hvars _ hold, World.keptBut_mono (fun p hp => ⟨hp, ?_⟩) (hb.frame (· ∈ before)), fun _ => ?_⟩
  · rw [hps, List.mem_append] at hp
    exact Or.inr hp
  · obtain ⟨_, _, _, _, _, hz, hn⟩ := hW
    refine ⟨hok, _, _, ([] ++ pa) ++ pv, ⟨[] ++ pa, pv, trodAll_append (hargs _ (fun _ _ => rfl)) (hres _ _ _), hvars _ (fun _ _ => rfl), rfl, ?_, ?_⟩, ?_⟩
    · intro b off hp
      have hin : MemPlace.cell b off ∈ before := by rw [hps]; simpa using hp
      rw [hb.frozen (hlt _ hin)]
      exact hz b off hin
    · intro ha
      have := hn ha
      rw [hps] at this
      simpa using this
    · intro p hp _
      rw [hps]
      simpa using hp
end

end Go.Proofs.Ytpllklojcjhjaaa
