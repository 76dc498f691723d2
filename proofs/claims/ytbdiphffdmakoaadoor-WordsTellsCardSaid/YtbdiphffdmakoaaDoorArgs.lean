/- What a reading of a slice of texts gives: the texts, cell by cell. -/
import Derived.Test.YtbdiphffdmakoaaDoorRows
import Derived.Test.YtbdiphffdmakoaaDoorBackW
import Derived.Test.YtbdiphffdmakoaaDoorTab
import Derived.SliceStrings
namespace Go.Proofs.YtbdiphffdmakoaaDoor.args
open Go Go.ChangeShapes Go.WideShapes Go.ChangeAt Go.ChangeMaps Go.RowKit Go.Proofs.YtbdiphffdmakoaaDoor

theorem cells9 : Tryd.prog.cellsOf 9 = 1 := by kernel_rfl

theorem add_mk (bk o j : Nat) : (⟨bk, o, none⟩ : Addr).add j = ⟨bk, o + j, none⟩ := by
  unfold Addr.add
  split
  · rename_i h; rw [h]; rfl
  · rfl

theorem spot_none {W : World} {ad : Addr} {v : Value} (h : W.cell? (ad.add 0) = some v) : ad.spot = none := by
  simp only [World.cell?, Addr.add, if_true] at h
  cases hs : ad.spot with
  | none => rfl
  | some _ =>
    rw [hs] at h
    split at h
    · simp at h
    · cases h

/-- A slice of texts that can be read. -/
theorem texts_of (W : World) (ad : Addr) (ss : List ByteArray) (len cap : Nat) (hl : len ≤ cap) (hss : ss.length = cap) (hcell : ∀ i, i < ss.length → W.cell? (ad.add i) = some (.string (ss.getD i ByteArray.empty))) :
    ∃ bk o, (0 < len → ad = ⟨bk, o, none⟩) ∧ TextsAt W bk o (ss.take len) := by
  obtain ⟨bk, o, spot⟩ := ad
  refine ⟨bk, o, fun h0 => ?_, fun j x hj => ?_⟩
  · have := spot_none (hcell 0 (by omega))
    simp only at this
    rw [this]
  · have hjl : j < len := by have := (List.getElem?_eq_some_iff.1 hj).1; rw [List.length_take] at this; omega
    have hs := spot_none (hcell 0 (by omega))
    simp only at hs
    subst hs
    have h1 := hcell j (by omega)
    rw [List.getElem?_take_of_lt hjl] at hj
    rw [List.getD, hj, add_mk] at h1
    exact h1

/-- What a reading of a slice of texts gives. -/
def TextsArg (W : World) (a : Option Addr) (len cap : Nat) : Prop := ∃ (xs : List ByteArray) (bk o : Nat), xs.length = len ∧ (0 < xs.length → a = some ⟨bk, o, none⟩) ∧ TextsAt W bk o xs ∧ (∀ x ∈ xs, x.size ≤ maxLen) ∧ len ≤ cap ∧ cap ≤ maxLen

theorem textsArg_of {H : Type} {enc : TypeId × Value → H} {W : World} {a : Option Addr} {len cap : Nat} {d : DataW H} {ps : List MemPlace} (h : DataW.Trod enc Tryd.prog W 0 (fun _ => true) true 22 (.slice a len cap) d ps) : TextsArg W a len cap := by
  obtain ⟨fuel, hf⟩ := h
  rcases open_strings Tryd.underlying22 Tryd.underlying9 cells9 hf with ⟨hcs, _⟩ | ⟨ad, len', cap', ss, hcs, _, hl, hm, hz, _, hcell, hsz⟩
  · simp [Value.cells] at hcs
    obtain ⟨rfl, rfl, rfl⟩ := hcs
    exact ⟨[], 0, 0, rfl, fun h => by simp at h, fun j x hj => by simp at hj, (fun x hx => by cases hx), Nat.le_refl _, by decide⟩
  · simp [Value.cells] at hcs
    obtain ⟨rfl, rfl, rfl⟩ := hcs
    have hz' : ss.length = cap := by simpa using hz
    obtain ⟨bk, o, h1, h2⟩ := texts_of W ad ss len cap hl hz' hcell
    have htl : (ss.take len).length = len := by rw [List.length_take]; omega
    exact ⟨ss.take len, bk, o, htl, fun h => by rw [h1 (by omega)], h2, fun x hx => hsz x (List.mem_of_mem_take hx), hl, hm⟩

end Go.Proofs.YtbdiphffdmakoaaDoor.args
