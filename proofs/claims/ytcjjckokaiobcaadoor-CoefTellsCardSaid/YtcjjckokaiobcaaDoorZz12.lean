/- Texts of the seat, joined. -/
import Derived.Test.YtcjjckokaiobcaaDoorZz5
import Derived.Test.YtcjjckokaiobcaaDoorCards
import Derived.Test.YtcjjckokaiobcaaDoorTie
import Derived.ProofKit
import Derived.Laws.IdiomArrays
import Derived.OpenShut
import Derived.LaidMore
import Derived.Lay
import Derived.Below
import Derived.ChangeSame
import Derived.Deep.DeepHandedRow
import Derived.Lib.LaidTab
import Derived.Lib.LaidU8
import Derived.Deep.Slices
import Derived.Deep.Strs
import Derived.ReadAgain
import Derived.Carry
/- Operations among what a law reads, and the tables that it lists. -/
namespace Go.Proofs.YtcjjckokaiobcaaDoor
open Go Go.ChangeShapes Go.WideShapes Go.ChangeAt Go.ChangeMaps Go.RowKit Go.Shelf Go.Proofs
set_option linter.unusedSimpArgs false
set_option linter.unusedVariables false
set_option maxRecDepth 100000

theorem Tryd.own : ownKnob Tryd.prog.godebug = none := by kernel_rfl
theorem Tryd.cells3 : Tryd.prog.cellsOf 3 = 1 := by kernel_rfl
theorem Tryd.cells5 : Tryd.prog.cellsOf 5 = 1 := by kernel_rfl
theorem Tryd.cells9 : Tryd.prog.cellsOf 9 = 1 := by kernel_rfl
theorem Tryd.cells22 : Tryd.prog.cellsOf 22 = 1 := by kernel_rfl
theorem Tryd.cells24 : Tryd.prog.cellsOf 24 = 3 := by kernel_rfl
theorem Tryd.cells26 : Tryd.prog.cellsOf 26 = 1 := by kernel_rfl
theorem Tryd.cells58 : Tryd.prog.cellsOf 58 = 5 := by kernel_rfl
theorem Tryd.cells59 : Tryd.prog.cellsOf 59 = 5 := by kernel_rfl
theorem Tryd.cells62 : Tryd.prog.cellsOf 62 = 21 := by kernel_rfl
theorem Tryd.und58 : Tryd.prog.underlying 58 = some (.array 5 9) := by kernel_rfl
theorem Tryd.und59 : Tryd.prog.underlying 59 = some (.array 5 26) := by kernel_rfl
theorem Tryd.und62 : Tryd.prog.underlying 62 = some (.array 7 24) := by kernel_rfl
theorem Tryd.und9 : Tryd.prog.underlying 9 = some .string := by kernel_rfl
theorem Tryd.und26 : Tryd.prog.underlying 26 = some (.slice 3) := by kernel_rfl
theorem Tryd.und22 : Tryd.prog.underlying 22 = some (.slice 24) := by kernel_rfl
theorem Tryd.und5 : Tryd.prog.underlying 5 = some (.int .u8) := by kernel_rfl
theorem Tryd.und3 : Tryd.prog.underlying 3 = some (.int .i64) := by kernel_rfl
theorem Tryd.und4 : Tryd.prog.underlying 4 = some .bool := by kernel_rfl
def opF0 : Field := { name := "Kind", type := 5, offset := 0, embedded := false, tag := "", pkgPath := "", byteOffset := 0 }
def opF1 : Field := { name := "N", type := 3, offset := 1, embedded := false, tag := "", pkgPath := "", byteOffset := 8 }
def opF2 : Field := { name := "D", type := 3, offset := 2, embedded := false, tag := "", pkgPath := "", byteOffset := 16 }
theorem Tryd.und24 : Tryd.prog.underlying 24 = some (.struct #[opF0, opF1, opF2]) := by kernel_rfl
def isJ (x : Int) : Prop := -9223372036854775808 ≤ x ∧ x < 9223372036854775808
def inO (o : Op3) : Prop := (0 ≤ o.1 ∧ o.1 ≤ 255) ∧ isJ o.2.1 ∧ isJ o.2.2
theorem wf_i64 {x : Int} (h : (Lit.int .i64 x).wf = true) : isJ x := by
  have h1 : IntKind.i64.min = -9223372036854775808 := rfl
  have h2 : IntKind.i64.max = 9223372036854775807 := rfl
  simp [Lit.wf, h1, h2] at h
  unfold isJ
  omega
theorem wf_u8 {x : Int} (h : (Lit.int .u8 x).wf = true) : 0 ≤ x ∧ x ≤ 255 := by
  have h1 : IntKind.u8.min = 0 := rfl
  have h2 : IntKind.u8.max = 255 := rfl
  simp [Lit.wf, h1, h2] at h
  omega
theorem list3 {α : Type} (l : List α) (h : l.length = 3) : ∃ a b c, l = [a, b, c] := by
  match l, h with
  | [a, b, c], _ => exact ⟨a, b, c, rfl⟩
theorem list5 {α : Type} (l : List α) (h : l.length = 5) : ∃ a b c d e, l = [a, b, c, d, e] := by
  match l, h with
  | [a, b, c, d, e], _ => exact ⟨a, b, c, d, e, rfl⟩
theorem mapM_some {α β : Type} {f : α → Option β} {a : α} {l : List α} {r : List β} (h : (a :: l).mapM f = some r) : ∃ b s, f a = some b ∧ l.mapM f = some s ∧ r = b :: s := by
  rw [List.mapM_cons] at h
  simp only [Option.pure_def, Option.bind_eq_bind, Option.bind_eq_some_iff] at h
  obtain ⟨b, hb, s, hs, hr⟩ := h
  exact ⟨b, s, hb, hs, by simpa using hr.symm⟩
section
variable {H : Type} {enc : TypeId × Value → H} {P : Program} {w w' : World} {base : Nat} {spare : Nat → Bool} {held : Bool}
theorem trodAll_carry : ∀ {ts : List TypeId} {vs : List Value} {ds : List (DataW H)} {ps : List MemPlace}, DataW.TrodAll enc P w base spare held ts vs ds ps → (∀ q ∈ ps, w.sameAt w' q) → DataW.TrodAll enc P w' base spare held ts vs ds ps
  | [], _, _, _, h, _ => by
    obtain ⟨rfl, rfl, rfl⟩ := trodAll_nil h
    exact trodAll_mk0
  | _ :: _, _, _, _, h, hs => by
    obtain ⟨v, vs1, d, ds1, a, b, rfl, rfl, rfl, ⟨n, h1⟩, h2⟩ := trodAll_cons h
    exact ⟨a, b, ⟨n, DataW.trod_carry n _ _ _ h1 (fun q hq => hs q (List.mem_append_left _ hq))⟩, trodAll_carry h2 (fun q hq => hs q (List.mem_append_right _ hq)), rfl⟩
end
set_option maxRecDepth 100000 in
theorem kids : Kids Tryd.prog (· < Tryd.prog.types.size) := kids_rows (by kernel_rfl) (by kernel_rfl)
set_option maxRecDepth 100000 in
theorem full : ∀ t e, t < Tryd.prog.types.size → Tryd.prog.underlying t = some (.slice e) → 0 < Tryd.prog.cellsOf e := slices_full_of Tryd.prog (by kernel_rfl)
/-- What was read is read again, where the call laid new memory alone. -/
theorem args_again {H : Type} {enc : TypeId × Value → H} {W W' : World} {ts : List TypeId} {vs : List Value} {ds : List (DataW H)} {ps : List MemPlace} (hT : ∀ t ∈ ts, t < Tryd.prog.types.size)
    (hA : DataW.TrodAll enc Tryd.prog W 0 (fun _ => true) true ts vs ds ps) (hb : Below W.heap.size W W') (hlt : ∀ q ∈ ps, q.block < W.heap.size) {sp : Nat → Bool} (hs : ∀ q ∈ ps, sp q.block = true) :
    DataW.TrodAll enc Tryd.prog W' 0 sp true ts vs ds ps :=
  (trodAll_carry hA (fun q hq => hb.same (hlt q hq))).respare kids full hT hs

theorem cell_at {w : World} {b o : Nat} {v : Value} (h : w.cell? ⟨b, o, none⟩ = some v) : ∃ c T fr, w.heap[b]? = some (.cells c T fr) ∧ c[o]? = some v := by
  unfold World.cell? at h
  split at h
  · rename_i c T fr hc
    exact ⟨c, T, fr, hc, by simpa using h⟩
  · cases h
theorem add_none (b o n : Nat) : (⟨b, o, none⟩ : Addr).add n = ⟨b, o + n, none⟩ := by
  unfold Addr.add
  split
  · rename_i h; subst h; rfl
  · rfl
theorem flat_get {α : Type} {fl : α → List Value} {k : Nat} (hk : 0 < k) (hfl : ∀ x, (fl x).length = k) {v : Value} : ∀ (L : List α) (m : Nat), (L.flatMap fl)[m]? = some v → ∃ i r x, L[i]? = some x ∧ r < k ∧ m = i * k + r ∧ (fl x)[r]? = some v := by
  intro L
  induction L with
  | nil => intro m hm; simp at hm
  | cons y r ih =>
    intro m hm
    rw [List.flatMap_cons] at hm
    by_cases hmk : m < k
    · rw [List.getElem?_append_left (by rw [hfl]; exact hmk)] at hm
      exact ⟨0, m, y, rfl, hmk, by omega, hm⟩
    · rw [List.getElem?_append_right (by rw [hfl]; omega), hfl] at hm
      obtain ⟨i, q, x, h1, h2, h3, h4⟩ := ih (m - k) hm
      refine ⟨i + 1, q, x, h1, h2, ?_, h4⟩
      rw [Nat.add_mul]
      omega
/-- Elements that are read, one by one. -/
theorem cwx_get {α : Type} {fl : α → List Value} {k : Nat} (hk : 0 < k) (hfl : ∀ x, (fl x).length = k) (off : Nat) (L : List α) {j : Nat} {v : Value} (hj : off ≤ j) (h : (cwx fl off L)[j]? = some v) : ∃ i r x, L[i]? = some x ∧ r < k ∧ j = off + (i * k + r) ∧ (fl x)[r]? = some v := by
  have h' : (List.replicate off ud ++ L.flatMap fl)[j]? = some v := by
    rw [← h]
    show _ = (Array.mk _)[j]?
    simp only [List.getElem?_toArray]
  rw [List.getElem?_append_right (by rw [List.length_replicate]; exact hj), List.length_replicate] at h'
  obtain ⟨i, r, x, h1, h2, h3, h4⟩ := flat_get hk hfl L _ h'
  exact ⟨i, r, x, h1, h2, by omega, h4⟩
/-- A slice that is read is nil, or a window. -/
theorem open_win {α : Type} [Inhabited α] {fl : α → List Value} {k : Nat} (hk : 0 < k) (hfl : ∀ x, (fl x).length = k) {H : Type} {enc : TypeId × Value → H} {W : World} {base fuel : Nat} {t e : TypeId} {v : Value} {x : DataW H × List MemPlace}
    (ht : Tryd.prog.underlying t = some (.slice e)) (ce : Tryd.prog.cellsOf e = k)
    (dec : ∀ {n : Nat} {cs : List Value} {y : DataW H × List MemPlace}, DataW.trod enc Tryd.prog W 0 (fun _ => true) true n e cs = some y → ∃ z : α, cs = fl z)
    (hv : Cell.okWide Tryd.prog W .any base t v) (hf : DataW.trod enc Tryd.prog W 0 (fun _ => true) true fuel t [v] = some x) :
    v = .slice none 0 0 ∨ ∃ (b off cap : Nat) (L : List α), v = slw b off L.length cap ∧ L.length ≤ cap ∧ cap ≤ maxLen ∧ WinAt off (cwx fl off L) W.heap[b]? := by
  have hv' : Cell.ok Tryd.prog W .any base t v := by
    unfold Cell.okWide at hv
    rw [ht] at hv
    exact hv
  have hv2 : v = .slice none 0 0 ∨ ∃ a len cap, v = .slice (some a) len cap ∧ W.has Tryd.prog .any base a e cap := by
    unfold Cell.ok at hv'
    rw [ht] at hv'
    cases v with
    | slice a len cap =>
      cases a with
      | none =>
        cases len with
        | zero =>
          cases cap with
          | zero => exact .inl rfl
          | succ c => exact hv'.elim
        | succ l => exact hv'.elim
      | some a => exact .inr ⟨a, len, cap, rfl, hv'.2.2⟩
    | _ => exact hv'.elim
  rcases hv2 with rfl | ⟨a, len, cap, rfl, hv2⟩
  · exact .inl rfl
  · obtain ⟨-, hspot, row, cells, hsh, -⟩ := hv2
    obtain ⟨b, off, spot⟩ := a
    simp only at hspot
    subst hspot
    right
    rcases Go.Deep.open_slice ht hf with ⟨h0, _⟩ | ⟨a, len', cap', m, n, D, Pl, h0, _, hl, hm, hmm, _, hx⟩
    · simp at h0
    · simp only [List.cons.injEq, Value.slice.injEq, Option.some.injEq, and_true] at h0
      obtain ⟨ha, hle, hce⟩ := h0
      subst ha; subst hle; subst hce
      simp only [if_true] at hmm
      rw [hmm] at hx
      rw [ce] at hx
      obtain ⟨f, hfx⟩ := Go.Deep.choose_lt (α := α) (n := len) (p := fun i x => W.cells? 0 ((⟨b, off, none⟩ : Addr).add (i * k)) k = some (fl x)) (fun i hi => by
        obtain ⟨cs', c1, c2⟩ := hx i (by omega)
        obtain ⟨x, rfl⟩ := dec c2
        exact ⟨x, c1⟩)
      refine ⟨b, off, cap, (List.range len).map f, by simp, by simpa using hl, hm, ?_⟩
      obtain ⟨c, T, fr, hb⟩ : ∃ c T fr, W.heap[b]? = some (.cells c T fr) := by
        unfold World.shape? at hsh
        simp only at hsh
        split at hsh
        · rename_i c T fr hc; exact ⟨c, T, fr, hc⟩
        · cases hsh
      refine ⟨c, T, fr, hb, fun j v hj hc => ?_⟩
      obtain ⟨i, r, x, h1, h2, h3, h4⟩ := cwx_get hk hfl off _ hj hc
      have hi : i < len := by
        have := (List.getElem?_eq_some_iff.1 h1).1
        simpa using this
      have hxe : x = f i := by
        rw [List.getElem?_map, List.getElem?_range hi] at h1
        simpa using h1.symm
      subst hxe
      obtain ⟨_, _, hkk⟩ := World.cells?_some (hfx i hi)
      have hk2 := hkk r h2
      rw [h4, add_none, add_none, Nat.add_assoc, ← h3] at hk2
      obtain ⟨c', T', fr', e1, e2⟩ := cell_at hk2
      rw [hb] at e1
      simp only [Option.some.injEq, Obj.cells.injEq] at e1
      rw [e1.1]
      exact e2


/-- An operation that is read. -/
theorem open_op {H : Type} {enc : TypeId × Value → H} {W : World} {held : Bool} {n : Nat} {cs : List Value} {x : DataW H × List MemPlace} (h : DataW.trod enc Tryd.prog W 0 (fun _ => true) held n 24 cs = some x) : ∃ o : Op3, inO o ∧ cs = flO o ∧ x = (.agg [.lit (.int .u8 o.1), .lit (.int .i64 o.2.1), .lit (.int .i64 o.2.2)], []) := by
  obtain ⟨xs, m, -, hx, hl, hlen, hf⟩ := DataW.trod_struct Tryd.und24 h
  rw [Tryd.cells24] at hl
  obtain ⟨a, b, c, rfl⟩ := list3 cs hl
  have f0 : DataW.trod enc Tryd.prog W 0 (fun _ => true) held m 5 (([a, b, c].drop 0).take (Tryd.prog.cellsOf 5)) = xs[0]? := hf 0 _ rfl
  have f1 : DataW.trod enc Tryd.prog W 0 (fun _ => true) held m 3 (([a, b, c].drop 1).take (Tryd.prog.cellsOf 3)) = xs[1]? := hf 1 _ rfl
  have f2 : DataW.trod enc Tryd.prog W 0 (fun _ => true) held m 3 (([a, b, c].drop 2).take (Tryd.prog.cellsOf 3)) = xs[2]? := hf 2 _ rfl
  rw [Tryd.cells5] at f0
  rw [Tryd.cells3] at f1 f2
  match xs, hlen with
  | [x0, x1, x2], _ =>
    obtain ⟨y0, e0, g0, w0⟩ := DataW.trod_int Tryd.und5 (show DataW.trod enc Tryd.prog W 0 (fun _ => true) held m 5 [a] = some x0 from f0)
    obtain ⟨y1, e1, g1, w1⟩ := DataW.trod_int Tryd.und3 (show DataW.trod enc Tryd.prog W 0 (fun _ => true) held m 3 [b] = some x1 from f1)
    obtain ⟨y2, e2, g2, w2⟩ := DataW.trod_int Tryd.und3 (show DataW.trod enc Tryd.prog W 0 (fun _ => true) held m 3 [c] = some x2 from f2)
    simp at e0 e1 e2
    subst e0 e1 e2 g0 g1 g2
    refine ⟨(y0, y1, y2), ⟨wf_u8 w0, wf_i64 w1, wf_i64 w2⟩, rfl, ?_⟩
    first | exact hx | simpa using hx
abbrev InOp := { o : Op3 // inO o }
instance : Inhabited InOp := ⟨⟨(0, 0, 0), by unfold inO isJ; decide⟩⟩
theorem flat_val (L : List InOp) : L.flatMap (fun z => flO z.1) = (L.map (·.1)).flatMap flO := by
  induction L with
  | nil => rfl
  | cons x r ih => simp [List.flatMap_cons, ih]
set_option maxRecDepth 100000 in
/-- A list of operations among the arguments. -/
theorem open_ops {H : Type} {enc : TypeId × Value → H} {W : World} {base : Nat} {v : Value} {d : DataW H} {p : List MemPlace}
    (hv : Value.okWide Tryd.prog W .any base 22 v) (h : DataW.Trod enc Tryd.prog W 0 (fun _ => true) true 22 v d p) : ∃ L, (∀ o ∈ L, inO o) ∧ LieK KO W v L := by
  obtain ⟨fuel, hf⟩ := h
  have hv' : Cell.okWide Tryd.prog W .any base 22 v := by
    unfold Value.okWide at hv
    rw [Tryd.und22] at hv
    exact hv
  have hcs : v.cells.toList = [v] := by
    unfold Cell.okWide Cell.ok at hv'
    rw [Tryd.und22] at hv'
    cases v with
    | slice a len cap => rfl
    | _ => exact hv'.elim
  rw [hcs] at hf
  rcases open_win (α := InOp) (fl := fun z => flO z.1) (k := 3) (by decide) (fun _ => rfl) Tryd.und22 Tryd.cells24 (fun h => by
    obtain ⟨o, ho, e, _⟩ := open_op h
    exact ⟨⟨o, ho⟩, e⟩) hv' hf with rfl | ⟨b, off, cap, L, rfl, h1, h2, h3⟩
  · exact ⟨[], by simp, .inl ⟨rfl, rfl⟩⟩
  · refine ⟨L.map (·.1), fun o ho => ?_, .inr ⟨b, off, cap, by rw [List.length_map], by rw [List.length_map]; exact h1, h2, ?_⟩⟩
    · obtain ⟨z, -, rfl⟩ := List.mem_map.1 ho
      exact z.2
    · have e : cwx (fun z : InOp => flO z.1) off L = cwx flO off (L.map (·.1)) := by
        unfold cwx
        rw [flat_val]
      show WinAt off (cwx flO off (L.map (·.1))) _
      rw [← e]
      exact h3
set_option maxRecDepth 100000 in
theorem open_opv {H : Type} {enc : TypeId × Value → H} {W : World} {base : Nat} {v : Value} {d : DataW H} {p : List MemPlace}
    (hv : Value.okWide Tryd.prog W .any base 24 v) (h : DataW.Trod enc Tryd.prog W 0 (fun _ => true) true 24 v d p) : ∃ o : Op3, inO o ∧ v = ov o := by
  obtain ⟨cs, rfl, hsz, hrow⟩ : ∃ cs, v = .agg cs ∧ cs.size = Tryd.prog.cellsOf 24 ∧ Row.okWide Tryd.prog W .any base 24 cs := by
    simpa [Value.okWide, Tryd.und24] using hv
  obtain ⟨fuel, hf⟩ := h
  obtain ⟨o, ho, e, _⟩ := open_op hf
  refine ⟨o, ho, ?_⟩
  obtain ⟨l⟩ := cs
  have e' : l = flO o := e
  rw [e']
  rfl
theorem open_kind {H : Type} {enc : TypeId × Value → H} {W : World} {base : Nat} {v : Value} {d : DataW H} {p : List MemPlace}
    (hv : Value.okWide Tryd.prog W .any base 5 v) (h : DataW.Trod enc Tryd.prog W 0 (fun _ => true) true 5 v d p) : ∃ k : Int, (0 ≤ k ∧ k ≤ 255) ∧ v = uu k := by
  obtain ⟨x, rfl, -, -, w⟩ := open_int Tryd.und5 hv h
  exact ⟨x, wf_u8 w, rfl⟩
theorem open_i {H : Type} {enc : TypeId × Value → H} {W : World} {base : Nat} {v : Value} {d : DataW H} {p : List MemPlace}
    (hv : Value.okWide Tryd.prog W .any base 3 v) (h : DataW.Trod enc Tryd.prog W 0 (fun _ => true) true 3 v d p) : ∃ k : Int, isJ k ∧ v = ii k := by
  obtain ⟨x, rfl, -, -, w⟩ := open_int Tryd.und3 hv h
  exact ⟨x, wf_i64 w, rfl⟩

/-! ### The tables, as the row's list gives them -/
theorem str_one {W : World} {fuel : Nat} {a : Value} {x : DataW Unit × List MemPlace} {l : List UInt8} (h : DataW.trod (fun _ => ()) Tryd.prog W 0 (fun _ => true) false fuel 9 [a] = some x) (e : x.1 = .lit (.string l)) : a = .string ⟨⟨l⟩⟩ := by
  obtain ⟨s, hs, rfl, -⟩ := DataW.trod_string Tryd.und9 h
  simp at hs
  subst hs
  simp only [DataW.lit.injEq, Lit.string.injEq] at e
  obtain ⟨⟨d⟩⟩ := s
  simp only at e
  subst e
  rfl
theorem nms_cells {W : World} {cs : List Value} {fuel : Nat} {p : List MemPlace} (h : DataW.trod (fun _ => ()) Tryd.prog W 0 (fun _ => true) false fuel 58 cs = some (Rows.laid_gyre_coef_names, p)) : cs = nmsC.toList := by
  cases fuel with
  | zero => cases h
  | succ k9 =>
    unfold DataW.trod at h
    simp only [Tryd.und58, Tryd.cells58, Tryd.cells9] at h
    split at h
    case isFalse => cases h
    rename_i hl
    obtain ⟨c0, c1, c2, c3, c4, rfl⟩ := list5 cs hl
    rw [Option.map_eq_some_iff] at h
    obtain ⟨r, hr, he⟩ := h
    rw [show List.range 5 = [0, 1, 2, 3, 4] from rfl] at hr
    obtain ⟨x0, r0, h0, k0, rfl⟩ := mapM_some hr
    obtain ⟨x1, r1, h1, k1, rfl⟩ := mapM_some k0
    obtain ⟨x2, r2, h2, k2, rfl⟩ := mapM_some k1
    obtain ⟨x3, r3, h3, k3, rfl⟩ := mapM_some k2
    obtain ⟨x4, r4, h4, k4, rfl⟩ := mapM_some k3
    simp only [Prod.mk.injEq, Rows.laid_gyre_coef_names, List.map_cons, DataW.agg.injEq, List.cons.injEq] at he
    obtain ⟨⟨e0, e1, e2, e3, e4, -⟩, -⟩ := he
    have g0 := str_one (a := c0) h0 e0
    have g1 := str_one (a := c1) h1 e1
    have g2 := str_one (a := c2) h2 e2
    have g3 := str_one (a := c3) h3 e3
    have g4 := str_one (a := c4) h4 e4
    rw [g0, g1, g2, g3, g4]
    rfl
theorem op_one {W : World} {fuel : Nat} {cs : List Value} {x : DataW Unit × List MemPlace} {k n d : Int} (h : DataW.trod (fun _ => ()) Tryd.prog W 0 (fun _ => true) false fuel 24 cs = some x) (e : x.1 = .agg [.lit (.int .u8 k), .lit (.int .i64 n), .lit (.int .i64 d)]) : cs = flO (k, n, d) := by
  obtain ⟨⟨a, b, c⟩, -, rfl, rfl⟩ := open_op h
  simp only [DataW.agg.injEq, List.cons.injEq, DataW.lit.injEq, Lit.int.injEq, and_true, true_and] at e
  obtain ⟨rfl, rfl, rfl⟩ := e
  rfl
theorem split7 {α : Type} (l : List α) (h : l.length = 21) : l = (l.drop 0).take 3 ++ ((l.drop 3).take 3 ++ ((l.drop 6).take 3 ++ ((l.drop 9).take 3 ++ ((l.drop 12).take 3 ++ ((l.drop 15).take 3 ++ (l.drop 18).take 3))))) := by
  match l, h with
  | [a0, a1, a2, a3, a4, a5, a6, a7, a8, a9, b0, b1, b2, b3, b4, b5, b6, b7, b8, b9, c0], _ => rfl
theorem tur_cells {W : World} {cs : List Value} {fuel : Nat} {p : List MemPlace} (h : DataW.trod (fun _ => ()) Tryd.prog W 0 (fun _ => true) false fuel 62 cs = some (Rows.laid_gyre_coef_turning, p)) : cs = turC.toList := by
  cases fuel with
  | zero => cases h
  | succ k9 =>
    unfold DataW.trod at h
    simp only [Tryd.und62, Tryd.cells62, Tryd.cells24] at h
    split at h
    case isFalse => cases h
    rename_i hl
    rw [Option.map_eq_some_iff] at h
    obtain ⟨r, hr, he⟩ := h
    rw [show List.range 7 = [0, 1, 2, 3, 4, 5, 6] from rfl] at hr
    obtain ⟨x0, r0, h0, k0, rfl⟩ := mapM_some hr
    obtain ⟨x1, r1, h1, k1, rfl⟩ := mapM_some k0
    obtain ⟨x2, r2, h2, k2, rfl⟩ := mapM_some k1
    obtain ⟨x3, r3, h3, k3, rfl⟩ := mapM_some k2
    obtain ⟨x4, r4, h4, k4, rfl⟩ := mapM_some k3
    obtain ⟨x5, r5, h5, k5, rfl⟩ := mapM_some k4
    obtain ⟨x6, r6, h6, k6, rfl⟩ := mapM_some k5
    simp only [Prod.mk.injEq, Rows.laid_gyre_coef_turning, List.map_cons, DataW.agg.injEq, List.cons.injEq] at he
    obtain ⟨⟨e0, e1, e2, e3, e4, e5, e6, -⟩, -⟩ := he
    rw [split7 cs hl]
    rw [show (cs.drop 0).take 3 = _ from op_one h0 e0, show (cs.drop 3).take 3 = _ from op_one h1 e1, show (cs.drop 6).take 3 = _ from op_one h2 e2, show (cs.drop 9).take 3 = _ from op_one h3 e3, show (cs.drop 12).take 3 = _ from op_one h4 e4, show (cs.drop 15).take 3 = _ from op_one h5 e5, show (cs.drop 18).take 3 = _ from op_one h6 e6]
    rfl
/-- A slice of ints that is read as it was laid. -/
theorem par_one {W : World} {fuel : Nat} {a : Value} {x : DataW Unit × List MemPlace} {L : List Int} (h : DataW.trod (fun _ => ()) Tryd.prog W 0 (fun _ => true) false fuel 26 [a] = some x) (e : x.1 = .slice (L.map fun z => .lit (.int .i64 z)) []) :
    ∃ ad : Addr, a = .slice (some ad) L.length L.length ∧ ∀ i z, L[i]? = some z → W.cell? (ad.add i) = some (.int .i64 z) := by
  rcases Go.Deep.open_slice1 Tryd.und26 Tryd.cells3 h with ⟨_, rfl⟩ | ⟨ad, len, cap, m, n, V, D, Pl, ha, _, hl, hm, hmm, rfl, hx⟩
  · cases e
  · simp only [if_true] at hmm
    subst hmm
    simp only [DataW.slice.injEq] at e
    obtain ⟨e1, e2⟩ := e
    have hlen : len = L.length := by
      have := congrArg List.length e1
      simpa using this
    have hz : m - len = 0 := by
      have := congrArg List.length e2
      simpa using this
    have hmc : m = len := by omega
    simp only [List.cons.injEq, and_true] at ha
    refine ⟨ad, by rw [ha, ← hlen, hmc], fun i z hi => ?_⟩
    have hlt : i < L.length := (List.getElem?_eq_some_iff.1 hi).1
    obtain ⟨h1, h2⟩ := hx i (by omega)
    obtain ⟨y, e3, e4, -⟩ := DataW.trod_int Tryd.und3 h2
    simp at e3
    have e5 := congrArg (fun l => l[i]?) e1
    simp only [List.getElem?_map, List.getElem?_range (show i < len by omega), hi, Option.map_some, Option.some.injEq] at e5
    simp only [Prod.mk.injEq] at e4
    rw [e4.1] at e5
    simp only [DataW.lit.injEq, Lit.int.injEq, true_and] at e5
    rw [h1, e3, e5]
theorem par_at {W : World} {cs : Array Value} {m : Nat} {L : List Int} {a : Value} (hne : L ≠ []) (hcs : cs[m]? = some a) (h : ∃ ad : Addr, a = .slice (some ad) L.length L.length ∧ ∀ i z, L[i]? = some z → W.cell? (ad.add i) = some (.int .i64 z)) : ParAt W cs m L := by
  obtain ⟨⟨b, off, spot⟩, rfl, hc⟩ := h
  obtain ⟨z, hz⟩ : ∃ z, L[0]? = some z := by
    cases L with
    | nil => exact absurd rfl hne
    | cons z r => exact ⟨z, rfl⟩
  have hsp : spot = none := by
    have := hc 0 z hz
    unfold World.cell? Addr.add at this
    simp only [if_true] at this
    split at this
    · split at this
      · cases this
      · rename_i hs
        simpa using hs
    · cases this
  subst hsp
  have key : ∀ i z, L[i]? = some z → ∃ c T fr, W.heap[b]? = some (.cells c T fr) ∧ c[off + i]? = some (.int .i64 z) := fun i z hi => by
    have := hc i z hi
    rw [add_none] at this
    exact cell_at this
  obtain ⟨c, T, fr, hh, -⟩ := key 0 z hz
  refine ⟨b, off, hcs, c, T, fr, hh, fun j x hj => ?_⟩
  obtain ⟨c', T', fr', hh', hx⟩ := key j x hj
  rw [hh] at hh'
  simp only [Option.some.injEq, Obj.cells.injEq] at hh'
  rw [hh'.1]
  exact hx
theorem par_cells {W : World} {cs : List Value} {fuel : Nat} {p : List MemPlace} (h : DataW.trod (fun _ => ()) Tryd.prog W 0 (fun _ => true) false fuel 59 cs = some (Rows.laid_gyre_coef_parts, p)) :
    (∃ a, (⟨cs⟩ : Array Value)[4]? = some (.slice (some a) 0 0)) ∧ ∀ m L, parL[m]? = some L → ParAt W ⟨cs⟩ m L := by
  cases fuel with
  | zero => cases h
  | succ k9 =>
    unfold DataW.trod at h
    simp only [Tryd.und59, Tryd.cells59, Tryd.cells26] at h
    split at h
    case isFalse => cases h
    rename_i hl
    obtain ⟨c0, c1, c2, c3, c4, rfl⟩ := list5 cs hl
    rw [Option.map_eq_some_iff] at h
    obtain ⟨r, hr, he⟩ := h
    rw [show List.range 5 = [0, 1, 2, 3, 4] from rfl] at hr
    obtain ⟨x0, r0, h0, k0, rfl⟩ := mapM_some hr
    obtain ⟨x1, r1, h1, k1, rfl⟩ := mapM_some k0
    obtain ⟨x2, r2, h2, k2, rfl⟩ := mapM_some k1
    obtain ⟨x3, r3, h3, k3, rfl⟩ := mapM_some k2
    obtain ⟨x4, r4, h4, k4, rfl⟩ := mapM_some k3
    simp only [Prod.mk.injEq, Rows.laid_gyre_coef_parts, List.map_cons, DataW.agg.injEq, List.cons.injEq] at he
    obtain ⟨⟨e0, e1, e2, e3, e4, -⟩, -⟩ := he
    refine ⟨?_, fun m L hm => ?_⟩
    · obtain ⟨ad, e, -⟩ := par_one (L := []) (a := c4) h4 e4
      exact ⟨ad, by rw [e]; rfl⟩
    · match m, hm with
      | 0, hm => cases hm; exact par_at (by decide) rfl (par_one (a := c0) h0 e0)
      | 1, hm => cases hm; exact par_at (by decide) rfl (par_one (a := c1) h1 e1)
      | 2, hm => cases hm; exact par_at (by decide) rfl (par_one (a := c2) h2 e2)
      | 3, hm => cases hm; exact par_at (by decide) rfl (par_one (a := c3) h3 e3)
      | _ + 4, hm => cases hm
theorem heap_of_var {W : World} {n : String} {g : Nat} {cs : Array Value} (hg : Tryd.prog.globalNamed n = some g) (h : W.var? Tryd.prog n = some cs) : ∃ T fr, W.heap[g]? = some (.cells cs T fr) := by
  unfold World.var? at h
  rw [hg, Option.bind_some] at h
  split at h
  · rename_i cs' T fr hh
    obtain rfl := Option.some.inj h
    exact ⟨T, fr, hh⟩
  · cases h
theorem gl_of_laid {W : World} (h : laidMetH Tryd.prog [("gyre/coef.parts", Rows.laid_gyre_coef_parts), ("gyre/coef.turning", Rows.laid_gyre_coef_turning), ("gyre/coef.names", Rows.laid_gyre_coef_names)] W) : GL W := by
  rw [MakeChecks.laidMetH_plain _ _ _ (by kernel_rfl)] at h
  refine ⟨?_, ?_, ?_⟩
  · obtain ⟨g, t', cs, fuel, p, hg, ht, hvar, hd⟩ := Lib.laidMet.reads h (n := "gyre/coef.names") (d := Rows.laid_gyre_coef_names) (by simp)
    obtain rfl := Option.some.inj ((show Tryd.prog.globalNamed "gyre/coef.names" = some 0 by kernel_rfl).symm.trans hg)
    obtain rfl := Option.some.inj ((show (Tryd.prog.globals[0]?).map (·.type) = some 58 by kernel_rfl).symm.trans ht)
    obtain ⟨T, fr, hh⟩ := heap_of_var hg hvar
    obtain ⟨l⟩ := cs
    rw [show l = nmsC.toList from nms_cells hd] at hh
    exact ⟨T, fr, hh⟩
  · obtain ⟨g, t', cs, fuel, p, hg, ht, hvar, hd⟩ := Lib.laidMet.reads h (n := "gyre/coef.turning") (d := Rows.laid_gyre_coef_turning) (by simp)
    obtain rfl := Option.some.inj ((show Tryd.prog.globalNamed "gyre/coef.turning" = some 2 by kernel_rfl).symm.trans hg)
    obtain rfl := Option.some.inj ((show (Tryd.prog.globals[2]?).map (·.type) = some 62 by kernel_rfl).symm.trans ht)
    obtain ⟨T, fr, hh⟩ := heap_of_var hg hvar
    obtain ⟨l⟩ := cs
    rw [show l = turC.toList from tur_cells hd] at hh
    exact ⟨T, fr, hh⟩
  · obtain ⟨g, t', cs, fuel, p, hg, ht, hvar, hd⟩ := Lib.laidMet.reads h (n := "gyre/coef.parts") (d := Rows.laid_gyre_coef_parts) (by simp)
    obtain rfl := Option.some.inj ((show Tryd.prog.globalNamed "gyre/coef.parts" = some 1 by kernel_rfl).symm.trans hg)
    obtain rfl := Option.some.inj ((show (Tryd.prog.globals[1]?).map (·.type) = some 59 by kernel_rfl).symm.trans ht)
    obtain ⟨T, fr, hh⟩ := heap_of_var hg hvar
    obtain ⟨l⟩ := cs
    obtain ⟨h4, hp⟩ := par_cells hd
    exact ⟨_, T, fr, hh, h4, hp⟩
section
variable {H : Type} {enc : TypeId × Value → H} {P : Program}
/-- The row's last step where the call laid new memory alone. -/
theorem post_of_below {f : Func} {s : ChangeSpec} {apart fresh handsOn again : Bool} {W W' : World} {args : Array Value} {v : Value} {ds gs : List (DataW H)} {before pa pv : List MemPlace}
    (hW : DataW.Whole enc P f.params.toList s.vars apart W args.toList ds gs before)
    (hres : ∀ (b : Nat) (sp : Nat → Bool) (hd : Bool), DataW.TrodAll enc P W' b sp hd f.resultTypes.toList (v.resultList f.resultTypes.size) (s.fn H (ds ++ gs)).results [])
    (hargs : ∀ sp : Nat → Bool, (∀ p ∈ before, sp p.block = true) → DataW.TrodAll enc P W' 0 sp true f.params.toList args.toList (s.fn H (ds ++ gs)).args pa)
    (hvars : ∀ sp : Nat → Bool, (∀ p ∈ before, sp p.block = true) → DataW.TrodVars enc P W' sp s.vars (s.fn H (ds ++ gs)).vars pv)
    (hps : before = pa ++ pv) (hb : Below W.heap.size W W')
    (hok : ∀ (j : Nat) (t : TypeId) (r : Value), f.resultTypes[j]? = some t → (v.resultList f.resultTypes.size)[j]? = some r → Value.okWide P W' .any 0 t r) :
    s.post enc P f apart fresh handsOn again W args v W' := by
  have hlt : ∀ p ∈ before, p.block < W.heap.size := fun p hp => hW.lt p hp
  have hold : ∀ p ∈ before, (fun b => decide (b < W.heap.size)) p.block = true := fun p hp => by simpa using hlt p hp
  refine ⟨ds, gs, before, [], pa, pv, hW, hres _ _ _, hargs _ hold, hvars _ hold, World.keptBut_mono (fun p hp => ⟨hp, ?_⟩) (hb.frame (· ∈ before)), fun _ => ?_⟩
  · rw [hps, List.mem_append] at hp
    exact Or.inr hp
  · obtain ⟨_, _, _, _, _, hz, hn⟩ := hW
    refine ⟨hok, _, _, ([] ++ pa) ++ pv, ⟨[] ++ pa, pv, trodAll_append (hargs _ (fun _ _ => rfl)) (hres _ _ _), hvars _ (fun _ _ => rfl), rfl, ?_, ?_⟩, ?_⟩
    · intro b off hp
      have hin : MemPlace.cell b off ∈ before := by rw [hps]; simpa using hp
      rw [hb.frozen (hlt _ hin)]
      exact hz b off hin
    · intro ha
      have := hn ha
      rw [hps] at this
      simpa using this
    · intro p hp _
      rw [hps]
      simpa using hp
end


end Go.Proofs.YtcjjckokaiobcaaDoor
