/- WideTells answers true at every two wide numbers, every int and every slice of wide numbers, and leaves its arguments as they were. No condition. -/
import Derived.Test.YtecgclkjglkkbaaAr
import Derived.Test.YtecgclkjglkkbaaR14
import Derived.Deep.Slices
import Derived.Carry
namespace Go.Proofs.Ytecgclkjglkkbaa
open Go.ChangeShapes Go.WideShapes Go.ChangeAt Go.RowKit Go.Deep
set_option linter.unusedSimpArgs false
set_option linter.unusedVariables false

theorem tells_walk (a b : Nat → Nat) (z : Int) (p : Option Addr) (n cap : Nat) (ha : Wds a) (hb : Wds b) (z1 : -9223372036854775808 ≤ z) (z2 : z ≤ 9223372036854775807) (hcap : n ≤ cap) (hn : cap ≤ maxLen) (w : World)
    (hS : n = 0 ∨ ∃ bb oo L, p = some ⟨bb, oo, none⟩ ∧ SlA w bb oo n L) :
    Calls Try.prog 3 #[.agg #[.int .u64 (a 0), .int .u64 (a 1), .int .u64 (a 2), .int .u64 (a 3)], .agg #[.int .u64 (b 0), .int .u64 (b 1), .int .u64 (b 2), .int .u64 (b 3)], .int .i64 z, .slice p n cap] w fun ee w' => ee = .returned (.bool true) ∧ Below w.heap.size w w' := by
  rcases hS with rfl | ⟨bb, oo, L, rfl, hS⟩
  · exact widetells_nil a b _ _ _ _ _ _ _ _ _ _ _ _ _ z ha hb z1 z2 p cap rfl rfl rfl rfl rfl rfl rfl rfl rfl rfl rfl rfl rfl w
  · by_cases h50 : n ≤ 50
    · exact widetells_some a b _ _ _ _ _ _ _ _ _ _ _ _ _ z ha hb z1 z2 _ _ L bb oo n cap hcap hn (by omega) rfl rfl rfl rfl rfl rfl rfl rfl rfl rfl rfl rfl rfl rfl rfl w hS
    · exact widetells_more a b z bb oo n cap (by omega) w

theorem Try.laidOut : laidOutB Try.prog = true := by kernel_rfl
theorem Try.read25 : Try.prog.readableRec 25 = true := by kernel_rfl
theorem Try.row25 : 25 < Try.prog.types.size := of_decide_eq_true (by kernel_rfl)

theorem add_mk (bb oo n : Nat) : Addr.add ⟨bb, oo, none⟩ n = ⟨bb, oo + n, none⟩ := by
  unfold Addr.add
  by_cases h : n = 0
  · subst h; simp
  · simp [h]
/-- Four cells of a slice's row. -/
theorem open_row {H : Type} {enc : TypeId × Value → H} {W : World} {base n : Nat} {held : Bool} {spare : Nat → Bool} {a : Addr} {cs : List Value} {y : DataW H × List MemPlace} (hc : W.cells? base a (Try.prog.cellsOf 24) = some cs)
    (h : DataW.trod enc Try.prog W base spare held n 24 cs = some y) : ∃ r : Nat → Nat, Wds r ∧ ∀ q, q < 4 → W.cell? (a.add q) = some (.int .u64 (r q)) := by
  rw [Try.cells24] at hc
  obtain ⟨_, hlen, hat⟩ := World.cells?_some hc
  obtain ⟨c0, c1, c2, c3, rfl⟩ := list4 cs (by simpa using hlen)
  obtain ⟨y0, y1, y2, y3, m, hx, hy0, hy1, hy2, hy3⟩ := trod_array4 Try.underlying24 Try.cells22 h
  obtain ⟨x0, e0, rfl, w0⟩ := DataW.trod_int Try.underlying22 hy0
  obtain ⟨x1, e1, rfl, w1⟩ := DataW.trod_int Try.underlying22 hy1
  obtain ⟨x2, e2, rfl, w2⟩ := DataW.trod_int Try.underlying22 hy2
  obtain ⟨x3, e3, rfl, w3⟩ := DataW.trod_int Try.underlying22 hy3
  simp at e0 e1 e2 e3
  subst e0 e1 e2 e3
  obtain ⟨a0, b0⟩ := wf_u64 w0
  obtain ⟨a1, b1⟩ := wf_u64 w1
  obtain ⟨a2, b2⟩ := wf_u64 w2
  obtain ⟨a3, b3⟩ := wf_u64 w3
  obtain ⟨n0, rfl⟩ := Int.eq_ofNat_of_zero_le a0
  obtain ⟨n1, rfl⟩ := Int.eq_ofNat_of_zero_le a1
  obtain ⟨n2, rfl⟩ := Int.eq_ofNat_of_zero_le a2
  obtain ⟨n3, rfl⟩ := Int.eq_ofNat_of_zero_le a3
  refine ⟨fun i => if i = 0 then n0 else if i = 1 then n1 else if i = 2 then n2 else if i = 3 then n3 else 0, ?_, ?_⟩
  · intro i
    dsimp only
    split
    · omega
    · split
      · omega
      · split
        · omega
        · split <;> omega
  · intro q hq
    have h := hat q hq
    have : q = 0 ∨ q = 1 ∨ q = 2 ∨ q = 3 := by omega
    rcases this with rfl | rfl | rfl | rfl <;> exact h

theorem slice_arg {H : Type} {enc : TypeId × Value → H} {W : World} {spare : Nat → Bool} {v : Value} {d : DataW H} {ps : List MemPlace} (hsp : ∀ b, spare b = true) (hv : v.cells.toList = [v])
    (h : DataW.Trod enc Try.prog W 0 spare true 25 v d ps) :
    ∃ (p : Option Addr) (n cap : Nat), v = .slice p n cap ∧ n ≤ cap ∧ cap ≤ maxLen ∧ (n = 0 ∨ ∃ bb oo L, p = some ⟨bb, oo, none⟩ ∧ SlA W bb oo n L) := by
  obtain ⟨fuel, hf⟩ := h
  rw [hv] at hf
  rcases open_slice Try.underlying25 hf with ⟨h0, _⟩ | ⟨a, len, cap, m, k, D, Pl, hcs, hb, hl, hm, hmm, hx, hi⟩
  · refine ⟨none, 0, 0, by simpa using h0, Nat.le_refl _, by unfold maxLen; omega, .inl rfl⟩
  · refine ⟨some a, len, cap, by simpa using hcs, hl, hm, ?_⟩
    by_cases h0 : len = 0
    · exact .inl h0
    · right
      rw [if_pos (hsp _)] at hmm
      subst hmm
      have each : ∀ i, ∃ r : Nat → Nat, i < m → Wds r ∧ ∀ q, q < 4 → W.cell? (a.add (i * 4 + q)) = some (.int .u64 (r q)) := by
        intro i
        by_cases hlt : i < m
        · obtain ⟨cs', hc, ht⟩ := hi i hlt
          obtain ⟨r, hr, hq⟩ := open_row hc ht
          refine ⟨r, fun _ => ⟨hr, fun q h4 => ?_⟩⟩
          rw [← hq q h4, Try.cells24]
          rw [Go.Deep.add_add]
        · exact ⟨fun _ => 0, fun h => absurd h hlt⟩
      have hch := fun i => Classical.choose_spec (each i)
      have hfirst := ((hch 0) (by omega)).2 0 (by omega)
      obtain ⟨bb, oo, sp⟩ := a
      have hsp0 : sp = none := by
        cases sp with
        | none => rfl
        | some x => simp [World.cell?, Addr.add] at hfirst; split at hfirst <;> simp at hfirst
      subst hsp0
      refine ⟨bb, oo, fun i => Classical.choose (each i), rfl, ?_, fun i hi2 => ⟨((hch i) (by omega)).1, fun q hq => ?_⟩⟩
      · exact World.block_lt_of_cell? W _ hfirst
      · have := ((hch i) (by omega)).2 q hq
        rw [add_mk, ← Nat.add_assoc] at this
        exact this

set_option maxRecDepth 100000 in
theorem tells_lifted (os : Os) (started : os.Started) (H : Type) (enc : TypeId × Value → H) :
    ReturnsInHanded {} Try.checked os 3 .any (Rows.wideTellsSpec.pre6 enc Try.prog Try.f3 Rows.wideTellsRow.domain false) (Rows.wideTellsSpec.post enc Try.prog Try.f3 false true false false) := by
  refine returnsInHanded_of_change (C := Try.checked) Try.own started (by kernel_rfl) Try.func3
    (ChangeSpec.witness6 (enc := enc) (C := Try.checked) false ⟨#[], #[.agg #[.int .u64 0, .int .u64 0, .int .u64 0, .int .u64 0], .agg #[.int .u64 0, .int .u64 0, .int .u64 0, .int .u64 0], .int .i64 0, .slice none 0 0], []⟩ 8 (by kernel_rfl) (by kernel_rfl) (by kernel_rfl) (by kernel_rfl)) ?_
  intro W base args ds gs before hval0 hW _ _
  have hval : ∀ (j : Nat) t v, Try.f3.params[j]? = some t → args[j]? = some v → Value.okWide Try.prog W .any base t v := hval0
  have hW' := hW
  obtain ⟨p, q, hA0, hV, rfl, hfz, hnd⟩ := hW
  have hA : DataW.TrodAll enc Try.prog W 0 (fun _ => true) true Try.f3.params.toList args.toList ds p := hA0
  rw [Try.params3] at hA hval
  obtain ⟨v0, v1, v2, v3, d0, d1, d2, d3, p0, p1, p2, p3, rfl, rfl, rfl, h0, h1, h2, h3⟩ := trodAll_four hA
  obtain ⟨rfl, rfl⟩ := trodVars_none hV
  obtain ⟨a, ha, rfl, rfl, rfl⟩ := open_wide (hval 0 24 v0 rfl rfl) h0
  obtain ⟨b, hb, rfl, rfl, rfl⟩ := open_wide (hval 1 24 v1 rfl rfl) h1
  obtain ⟨z, rfl, rfl, rfl, w2⟩ := open_int Try.underlying3 (hval 2 3 v2 rfl rfl) h2
  obtain ⟨x, len, cap, rfl⟩ := okWide_slice Try.underlying25 (hval 3 25 v3 rfl rfl)
  obtain ⟨p', n, cap', he, hcap, hn, hS⟩ := slice_arg (fun _ => rfl) rfl h3
  cases he
  have hz : -9223372036854775808 ≤ z ∧ z ≤ 9223372036854775807 := by
    have e1 : IntKind.i64.min = -9223372036854775808 := by kernel_rfl
    have e2 : IntKind.i64.max = 9223372036854775807 := by kernel_rfl
    have hn := w2
    simp only [Lit.wf, Bool.and_eq_true, decide_eq_true_eq, e1, e2] at hn
    exact hn
  clear hA0 hval0
  simp only [List.append_nil, List.nil_append] at hW'
  have hlt : ∀ y ∈ p3, y.block < W.heap.size := fun y hy => hW'.lt y hy
  refine (tells_walk a b z _ _ _ ha hb hz.1 hz.2 hcap hn W hS).mono fun e W' ⟨he, hB⟩ => ?_
  subst he
  exact ⟨_, rfl, post_of_below (pa := p3) (pv := []) hW' (fun _ _ _ => trodAll_mk1 (shut_bool Try.underlying4 _))
    (fun sp hsp => by
      have := trodAll_mk4 (shut_wide (enc := enc) (W := W') (base := 0) (spare := sp) (held := true) ha) (shut_wide hb) (shut_int Try.underlying3 w2)
        (WideElems.Trod_stays (sp' := sp) Try.laidOut Try.read25 Try.row25 h3 (fun y hy => hB.same (hlt y hy)) (fun y hy => hsp y hy))
      simp only [List.append_nil, List.nil_append] at this
      exact this) (fun _ _ => rfl) (by simp)
    hB (ok_one (by kernel_rfl) rfl (okWide_bool_mk Try.underlying4 _))⟩

theorem wideTells_holds : Rows.WideTellsSaid :=
  OpenClaim.holds_of_wide 3 Try.f3 rfl rfl rfl rfl rfl rfl rfl ⟨rfl, rfl, rfl, rfl, rfl⟩ rfl rfl rfl rfl rfl (by kernel_rfl) Try.func3 (by kernel_rfl)
    (of_decide_eq_true (by kernel_rfl)) (by unfold Func.isWrapper; first | (rw [if_pos (by decide +kernel)]; kernel_rfl) | (rw [if_neg (by decide +kernel)]; exact ⟨rfl, rfl⟩))
    (fun os started H enc _ => tells_lifted os started H enc)

end Go.Proofs.Ytecgclkjglkkbaa
