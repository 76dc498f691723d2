/- WordsBlanks answers true at every input, and leaves its arguments as they were: the card. -/
import Derived.Test.YtbdiphffdmakoaaDoorCards
import Derived.Test.YtbdiphffdmakoaaDoorTie
import Derived.Test.YtbdiphffdmakoaaDoorTab
import Derived.Test.YtbdiphffdmakoaaDoorBlanksW
import Derived.SliceStrings
import Derived.Carry
import Derived.Deep.DeepHandedRow
import Derived.Lib.LaidTab
namespace Go.Proofs.YtbdiphffdmakoaaDoor.wordsBlanks
open Go.ChangeShapes Go.WideShapes Go.ChangeAt Go.ChangeMaps Go.RowKit Go.Proofs.YtbdiphffdmakoaaDoor

theorem own : ownKnob Tryd.prog.godebug = none := by kernel_rfl
theorem laidOut : laidOutB Tryd.prog = true := by kernel_rfl
theorem read22 : Tryd.prog.readableRec 22 = true := by kernel_rfl
theorem row22 : 22 < Tryd.prog.types.size := of_decide_eq_true (by kernel_rfl)
theorem read45 : Tryd.prog.readableRec 45 = true := by kernel_rfl
theorem row45 : 45 < Tryd.prog.types.size := of_decide_eq_true (by kernel_rfl)
theorem cells9 : Tryd.prog.cellsOf 9 = 1 := by kernel_rfl
theorem cells3 : Tryd.prog.cellsOf 3 = 1 := by kernel_rfl

theorem add_mk (bk o j : Nat) : (⟨bk, o, none⟩ : Addr).add j = ⟨bk, o + j, none⟩ := by
  unfold Addr.add
  split
  · rename_i h; rw [h]; rfl
  · rfl

theorem spot_none {W : World} {ad : Addr} {v : Value} (h : W.cell? (ad.add 0) = some v) : ad.spot = none := by
  simp only [World.cell?, Addr.add, if_true] at h
  cases hs : ad.spot with
  | none => rfl
  | some _ =>
    rw [hs] at h
    split at h
    · simp at h
    · cases h

/-- A slice of texts that can be read. -/
theorem texts_of (W : World) (ad : Addr) (ss : List ByteArray) (len cap : Nat) (hl : len ≤ cap) (hss : ss.length = cap) (hcell : ∀ i, i < ss.length → W.cell? (ad.add i) = some (.string (ss.getD i ByteArray.empty))) :
    ∃ bk o, (0 < len → ad = ⟨bk, o, none⟩) ∧ TextsAt W bk o (ss.take len) := by
  obtain ⟨bk, o, spot⟩ := ad
  refine ⟨bk, o, fun h0 => ?_, fun j x hj => ?_⟩
  · have := spot_none (hcell 0 (by omega))
    simp only at this
    rw [this]
  · have hjl : j < len := by have := (List.getElem?_eq_some_iff.1 hj).1; rw [List.length_take] at this; omega
    have hs := spot_none (hcell 0 (by omega))
    simp only at hs
    subst hs
    have h1 := hcell j (by omega)
    rw [List.getElem?_take_of_lt hjl] at hj
    rw [List.getD, hj, add_mk] at h1
    exact h1

theorem ints_of (W : World) (ad : Addr) (zs : List Int) (len cap : Nat) (hl : len ≤ cap) (hss : zs.length = cap) (hcell : ∀ i, i < zs.length → W.cell? (ad.add i) = some (.int .i64 (zs.getD i 0))) :
    ∃ bk o, (0 < len → ad = ⟨bk, o, none⟩) ∧ IntsAt W bk o (zs.take len) := by
  obtain ⟨bk, o, spot⟩ := ad
  refine ⟨bk, o, fun h0 => ?_, fun j x hj => ?_⟩
  · have := spot_none (hcell 0 (by omega))
    simp only at this
    rw [this]
  · have hjl : j < len := by have := (List.getElem?_eq_some_iff.1 hj).1; rw [List.length_take] at this; omega
    have hs := spot_none (hcell 0 (by omega))
    simp only at hs
    subst hs
    have h1 := hcell j (by omega)
    rw [List.getElem?_take_of_lt hjl] at hj
    rw [List.getD, hj, add_mk] at h1
    exact h1

/-- What a reading of a slice of texts gives. -/
def TextsArg (W : World) (a : Option Addr) (len cap : Nat) : Prop := ∃ (xs : List ByteArray) (bk o : Nat), xs.length = len ∧ (0 < xs.length → a = some ⟨bk, o, none⟩) ∧ TextsAt W bk o xs ∧ (∀ x ∈ xs, x.size ≤ maxLen) ∧ len ≤ cap ∧ cap ≤ maxLen
def IntsArg (W : World) (a : Option Addr) (len : Nat) : Prop := ∃ (zs : List Int) (bk o : Nat), zs.length = len ∧ (0 < zs.length → a = some ⟨bk, o, none⟩) ∧ IntsAt W bk o zs ∧ len ≤ maxLen

theorem textsArg_of {H : Type} {enc : TypeId × Value → H} {W : World} {a : Option Addr} {len cap : Nat} {d : DataW H} {ps : List MemPlace} (h : DataW.Trod enc Tryd.prog W 0 (fun _ => true) true 22 (.slice a len cap) d ps) : TextsArg W a len cap := by
  obtain ⟨fuel, hf⟩ := h
  rcases open_strings Tryd.underlying22 Tryd.underlying9 cells9 hf with ⟨hcs, _⟩ | ⟨ad, len', cap', ss, hcs, _, hl, hm, hz, _, hcell, hsz⟩
  · simp [Value.cells] at hcs
    obtain ⟨rfl, rfl, rfl⟩ := hcs
    exact ⟨[], 0, 0, rfl, fun h => by simp at h, fun j x hj => by simp at hj, (fun x hx => by cases hx), Nat.le_refl _, by decide⟩
  · simp [Value.cells] at hcs
    obtain ⟨rfl, rfl, rfl⟩ := hcs
    have hz' : ss.length = cap := by simpa using hz
    obtain ⟨bk, o, h1, h2⟩ := texts_of W ad ss len cap hl hz' hcell
    have htl : (ss.take len).length = len := by rw [List.length_take]; omega
    exact ⟨ss.take len, bk, o, htl, fun h => by rw [h1 (by omega)], h2, fun x hx => hsz x (List.mem_of_mem_take hx), hl, hm⟩

theorem intsArg_of {H : Type} {enc : TypeId × Value → H} {W : World} {a : Option Addr} {len cap : Nat} {d : DataW H} {ps : List MemPlace} (h : DataW.Trod enc Tryd.prog W 0 (fun _ => true) true 45 (.slice a len cap) d ps) : IntsArg W a len := by
  obtain ⟨fuel, hf⟩ := h
  rcases open_ints Tryd.underlying45 Tryd.underlying3 cells3 hf with ⟨hcs, _⟩ | ⟨ad, len', cap', ss, hcs, _, hl, hm, hz, _, hcell, hsz⟩
  · simp [Value.cells] at hcs
    obtain ⟨rfl, rfl, rfl⟩ := hcs
    exact ⟨[], 0, 0, rfl, fun h => by simp at h, fun j x hj => by simp at hj, by decide⟩
  · simp [Value.cells] at hcs
    obtain ⟨rfl, rfl, rfl⟩ := hcs
    have hz' : ss.length = cap := by simpa using hz
    obtain ⟨bk, o, h1, h2⟩ := ints_of W ad ss len cap hl hz' hcell
    have htl : (ss.take len).length = len := by rw [List.length_take]; omega
    exact ⟨ss.take len, bk, o, htl, fun h => by rw [h1 (by omega)], h2, Nat.le_trans hl hm⟩

theorem any_walk (W : World) (a b : Option Addr) (len cap len2 cap2 : Nat) (hT : Tabs W) (h1 : TextsArg W a len cap) (h2 : IntsArg W b len2) :
    Calls Tryd.prog 7 #[.slice a len cap, .slice b len2 cap2] W fun e W' => e = .returned (.bool true) ∧ Below W.heap.size W W' := by
  obtain ⟨xs, bk, o, rfl, hp, hx, hxz, hl, hm⟩ := h1
  obtain ⟨zs, bq, oq, rfl, hq, hz, hm2⟩ := h2
  unfold maxLen at hm hm2
  by_cases hlong : 10 < xs.length ∨ 40 < zs.length
  · exact blanks_long _ _ _ _ _ _ W hlong (by omega) (by omega) hT
  · exact blanks_walk a b bk o cap bq oq cap2 xs zs W hp hq hx hz (fun x hx => by have := hxz x hx; unfold maxLen at this; omega) (by omega) (by omega) hT

theorem contract (H : Type) (enc : TypeId × Value → H) (W : World) (base : Nat) (args : Array Value) (ds gs : List (DataW H)) (before : List MemPlace)
    (hval : ∀ (j : Nat) t v, Tryd.f7.params[j]? = some t → args[j]? = some v → Value.okWide Tryd.prog W .any base t v)
    (hW : DataW.Whole enc Tryd.prog Tryd.f7.params.toList Rows.wordsBlanksSpec.vars false W args.toList ds gs before) (hL : laidMetH Tryd.prog Rows.wordsBlanksRow.laid W) :
    Calls Tryd.prog 7 args W fun e W' => ∃ v, e = .returned v ∧ Rows.wordsBlanksSpec.post enc Tryd.prog Tryd.f7 false true false false W args v W' := by
  have hW' := hW
  obtain ⟨p, q, hA0, hV, rfl, hfz, hnd⟩ := hW
  have hA : DataW.TrodAll enc Tryd.prog W 0 (fun _ => true) true Tryd.f7.params.toList args.toList ds p := hA0
  rw [Tryd.params7] at hA hval
  obtain ⟨v0, vs0, d0, ds0, p0, q0, hargs, rfl, rfl, h0, r0⟩ := trodAll_cons hA
  obtain ⟨v1, vs1, d1, ds1, p1, q1, rfl, rfl, rfl, h1, r1⟩ := trodAll_cons r0
  obtain ⟨rfl, rfl, rfl⟩ := trodAll_nil r1
  obtain rfl : args = #[v0, v1] := by cases args; simp_all
  obtain ⟨rfl, rfl⟩ := trodVars_none hV
  obtain ⟨a, len, cap, rfl⟩ := okWide_slice Tryd.underlying22 (hval 0 22 v0 rfl rfl)
  obtain ⟨b, len2, cap2, rfl⟩ := okWide_slice Tryd.underlying45 (hval 1 45 v1 rfl rfl)
  clear hA0
  simp only [List.append_nil] at hW'
  have hT : Tabs W := tabs_of_laid hL
  have hlt : ∀ x ∈ p0 ++ p1, x.block < W.heap.size := fun x hx => hW'.lt x hx
  refine (any_walk W a b len cap len2 cap2 hT (textsArg_of h0) (intsArg_of h1)).mono fun e W' ⟨he, hB⟩ => ?_
  subst he
  exact ⟨_, rfl, post_of_below (pa := p0 ++ p1) (pv := []) hW' (fun _ _ _ => trodAll_cons_mk (shut_bool Tryd.underlying4 _) trodAll_mk0)
    (fun sp hsp => by
      have := trodAll_cons_mk (WideElems.Trod_stays (sp' := sp) laidOut read22 row22 h0 (fun x hx => hB.same (hlt x (List.mem_append_left _ hx))) (fun x hx => hsp x (List.mem_append_left _ hx)))
        (trodAll_cons_mk (WideElems.Trod_stays (sp' := sp) laidOut read45 row45 h1 (fun x hx => hB.same (hlt x (List.mem_append_right _ hx))) (fun x hx => hsp x (List.mem_append_right _ hx))) trodAll_mk0)
      simp only [List.append_nil] at this
      exact this) (fun _ _ => rfl) (by simp)
    hB (ok_one (by kernel_rfl) rfl (okWide_bool_mk Tryd.underlying4 _))⟩

/-- A WORLD FOR THE WITNESS: the listed tables laid. -/
noncomputable def laidWorld (os : Os) : World := World.laidAll Tryd.prog os Rows.wordsBlanksRow.laid
theorem laid_met (os : Os) : laidMet Tryd.prog Rows.wordsBlanksRow.laid ((laidWorld os).forCall (fun _ _ => 0) ⟨#[], #[.slice none 0 0, .slice none 0 0], []⟩).memory :=
  laidMet_laidAll _ (by kernel_rfl) (by kernel_rfl)
theorem reads (os : Os) {H : Type} (enc : TypeId × Value → H) : ∃ places, DataW.whole enc Tryd.prog ((laidWorld os).forCall (fun _ _ => 0) ⟨#[], #[.slice none 0 0, .slice none 0 0], []⟩).memory Tryd.f7.params.toList Rows.wordsBlanksSpec.vars false #[Value.slice none 0 0, .slice none 0 0].toList 8 = some ([.nil, .nil], [], places) :=
  ⟨[], by kernel_rfl⟩

set_option maxRecDepth 100000 in
theorem lifted (os : Os) (started : os.Started) (H : Type) (enc : TypeId × Value → H) (F : Stop.Interp) :
    ReturnsInHanded {} Tryd.checked os 7 .any ((OpenSpec.ofChange Rows.wordsBlanksSpec).preRow enc Tryd.prog Tryd.f7 Rows.wordsBlanksRow.domain false Rows.wordsBlanksRow.laid) (((OpenSpec.ofChange Rows.wordsBlanksSpec).at F).post enc Tryd.prog Tryd.f7 false true false false) := by
  obtain ⟨places, hx⟩ := reads os enc
  refine returnsInHanded_of_row (C := Tryd.checked) (s := OpenSpec.ofChange Rows.wordsBlanksSpec) own started (by kernel_rfl) Tryd.func7
    (witness_row_at (enc := enc) (C := Tryd.checked) false (laidWorld os) #[.slice none 0 0, .slice none 0 0] rfl (by kernel_rfl) (by kernel_rfl) (by kernel_rfl)
      (OpenSpec.preRow_of_cond 8 hx (by kernel_rfl) (fun k hk => by cases hk) (by kernel_rfl) (laid_met os))) ?_
  intro W base args ds gs before hval hW _ _ _ hL _ _
  exact contract H enc W base args ds gs before hval hW hL

theorem said : Rows.WordsBlanksSaid :=
  OpenClaim.holds_of_cond 7 Tryd.f7 rfl rfl rfl rfl rfl rfl rfl ⟨rfl, rfl, rfl, rfl, rfl⟩ rfl rfl rfl rfl rfl (by kernel_rfl) Tryd.func7 (by kernel_rfl)
    (of_decide_eq_true (by kernel_rfl)) (by unfold Func.isWrapper; first | (rw [if_pos (by decide +kernel)]; kernel_rfl) | (rw [if_neg (by decide +kernel)]; exact ⟨rfl, rfl⟩))
    (fun os started H enc _ F => by rw [OpenClaim.pre_eq_preRow]; exact lifted os started H enc F)

/-- No parameter wants a stand-in. -/
theorem plain (f : FuncId) (fn : Func) (hf : Tryd.pinned.checked.prog.funcNamed "gyre/gyrelaw01.WordsBlanks" = some f) (hfn : Tryd.pinned.checked.prog.funcs[f]? = some fn) :
    false = Tryd.pinned.checked.prog.looks [] ∧ ∀ (j : Nat) t, fn.params[j]? = some t → Tryd.pinned.checked.prog.wantsStandIn t = false := by
  obtain rfl : f = 7 := Option.some.inj ((show Tryd.prog.funcNamed "gyre/gyrelaw01.WordsBlanks" = some 7 by kernel_rfl).symm.trans hf) |>.symm
  obtain rfl : fn = Tryd.f7 := (Option.some.inj (Tryd.func7.symm.trans hfn)).symm
  refine ⟨by kernel_rfl, fun j t ht => ?_⟩
  rw [Tryd.params7] at ht
  have hm : t ∈ [22, 45] := by simpa using Array.mem_of_getElem? ht
  have hall : ([22, 45].all fun u => !Tryd.prog.wantsStandIn u) = true := by kernel_rfl
  exact (show Tryd.prog.wantsStandIn t = false by simpa using List.all_eq_true.1 hall t hm)

/-- The card. -/
theorem card : Rows.WordsBlanksCardSaid :=
  Claim7.holds_tied_plain_at .later [] _ _ _ _ said (fun _ h => by cases h) (by kernel_rfl) (fun _ h => by cases h) wordsBlanks_row_tie rfl ⟨rfl, rfl⟩ (by kernel_rfl) rfl plain (by kernel_rfl)

end Go.Proofs.YtbdiphffdmakoaaDoor.wordsBlanks
