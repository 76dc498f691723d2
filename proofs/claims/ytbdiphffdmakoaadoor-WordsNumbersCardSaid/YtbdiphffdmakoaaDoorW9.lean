/- The contract of the document's own Split (gyreref01), for every text of at most 2000000 bytes: it tells what Split of package words tells. -/
import Derived.Test.YtbdiphffdmakoaaDoorP1
import Derived.RegionTactic
import Derived.WalkSpells
namespace Go.Proofs.YtbdiphffdmakoaaDoor
open Go Go.RowKit Go.MapKept Go.Shelf

/-- What the document's Split has so far: the words that are over, and the one that is being read. -/
def soFar (s : ByteArray) (pre : List (Nat × ByteArray)) (inside : Bool) (a b pos : Nat) : List (Nat × ByteArray) := if inside then pre ++ [(a, s.extract b pos)] else pre

def RsRel (s : ByteArray) (w : World) (v0 v5 v6 v7 : Value) (wr : World) : Prop :=
  ∃ (pos f n : Nat) (inside : Bool) (a b : Nat) (pre : List (Nat × ByteArray)) (t : ByteArray), v0 = .string t ∧ t = s.extract pos s.size ∧ v6 = .int .i64 n ∧ v7 = .bool inside ∧ pos ≤ s.size ∧ n ≤ pos ∧ b ≤ pos ∧ s.size ≤ pos + f ∧
    (soFar s pre inside a b pos).length ≤ n ∧
    wr.ownsRow w.heap.size 38 2 v5 (soFar s pre inside a b pos).length ((soFar s pre inside a b pos).flatMap wordC) ∧ Below w.heap.size w wr ∧
    pre ++ wordsF s (runesF s f pos) a b n inside = wordsR s ∧ badF (runesF s f pos) n = badF (runes s) 0 ∧ n + (runesF s f pos).length = (runes s).length

theorem flat_len : ∀ (l : List (Nat × ByteArray)), (l.flatMap wordC).length = l.length * 2
  | [] => rfl
  | x :: l => by rw [List.flatMap_cons, List.length_append, flat_len l]; simp [wordC]; omega

theorem flat_get (l : List (Nat × ByteArray)) (x : Nat × ByteArray) : ((l ++ [x]).flatMap wordC)[l.length * 2 + 1]? = some (.string x.2) := by
  rw [List.flatMap_append, List.getElem?_append_right (by rw [flat_len]; omega), flat_len, show l.length * 2 + 1 - l.length * 2 = 1 by omega]
  rfl

theorem flat_set (l : List (Nat × ByteArray)) (a : Nat) (x y : ByteArray) : ((l ++ [(a, x)]).flatMap wordC).set (l.length * 2 + 1) (.string y) = (l ++ [(a, y)]).flatMap wordC := by
  rw [List.flatMap_append, List.flatMap_append, List.set_append_right _ _ (by rw [flat_len]; omega), flat_len, show l.length * 2 + 1 - l.length * 2 = 1 by omega]
  rfl

theorem decodeGo_ext (s t : ByteArray) (pos : Nat) (ht : t = s.extract pos s.size) (hp : pos < s.size) : Lib.decodeGo t = Utf8.decode s pos := by
  subst ht
  have : ¬ (s.extract pos s.size).size = 0 := by rw [ext_size]; omega
  unfold Lib.decodeGo
  rw [if_neg this, decode_ext s pos (by omega)]

theorem refNext_at (s t : ByteArray) (pos : Nat) (w : World) (hT : Lib.Utf8Tabs 0 1 w) (ht : t = s.extract pos s.size) (hp : pos < s.size) :
    Calls Tryd.prog 26 #[.string t] w fun e w' => e = .returned (.tuple #[.int .i32 (Utf8.decode s pos).1, .int .i64 (Utf8.decode s pos).2, .bool (badB t)]) ∧ Below w.heap.size w w' := by
  have h := refNext_any t w hT
  rwa [decodeGo_ext s t pos ht hp] at h

theorem badB_at (s t : ByteArray) (pos : Nat) (ht : t = s.extract pos s.size) (hp : pos < s.size) : badB t = true → ((Utf8.decode s pos).1 : Int) = 65533 := by
  have h := badB_rune t
  rwa [decodeGo_ext s t pos ht hp] at h

theorem ownsRow_below {w w' : World} {B : Nat} {e : TypeId} {z : Nat} {v : Value} {n : Nat} {xs : List Value} (h : w.ownsRow B e z v n xs) (hb : Below w.heap.size w w') : w'.ownsRow B e z v n xs := by
  refine ⟨h.1, ?_⟩
  rcases h.2 with h0 | ⟨g, cap, cur, hv, hbg, hg, rest⟩
  · exact .inl h0
  · exact .inr ⟨g, cap, cur, hv, hbg, (hb.block g (Array.getElem?_eq_some_iff.1 hg).1).trans hg, rest⟩

set_option maxRecDepth 100000 in
set_option maxHeartbeats 2000000 in
theorem refSplit_any (s : ByteArray) (w : World) (hs : s.size ≤ 2000000) (hT : Tabs w) :
    Calls Tryd.prog 10 #[.string s] w fun e w' => ∃ v, e = .returned (.tuple #[v, .int .i64 (splitR s).2.1, .int .i64 (splitR s).2.2]) ∧
      w'.ownsRow w.heap.size 38 2 v (splitR s).1.length ((splitR s).1.flatMap wordC) ∧ Below w.heap.size w w' := by
  go_enter Tryd.func10, Tryd.ntmps10
  go_wp2
  have hstart : RsRel s w (.string s) (.slice none 0 0) (.int .i64 0) (.bool false) w :=
    ⟨0, s.size, 0, false, 0, 0, [], s, rfl, (ext_all s).symm, rfl, rfl, by omega, by omega, by omega, by omega, by simp [soFar], World.ownsRow_nil _ _ _ _, Below.refl _ _, rfl, rfl, by simp [runes]⟩
  go_loopw [0, 5, 6, 7] (fun v0 v5 v6 v7 wr => RsRel s w v0 v5 v6 v7 wr) (fun v0 _ _ _ _ => match v0 with | .string t => t.size | _ => 0)
  case atStart => exact hstart
  case round =>
    clear hstart
    obtain ⟨pos, f, n, inside, a, b, pre, t, rfl, ht, rfl, rfl, hps, hnp, hbp, hf, hln, hown, hB, hw, hbad, hlen⟩ := hrel
    have HT := Lib.hid ht
    have HW := Lib.hid hw
    have HB := Lib.hid hbad
    have HL := Lib.hid hlen
    have hts : t.size = s.size - pos := by rw [ht]; exact ext_size s pos
    clear ht hw hbad hlen
    by_cases hp : pos < s.size
    · have hpt : 0 < t.size := by omega
      have hwd := width_pos s pos hp
      have hwl := width_le s pos hp
      have hwt : (Utf8.decode s pos).2 ≤ t.size := by omega
      have HTS := Lib.hid hts
      clear hts
      have T2 : Lib.Utf8Tabs 0 1 wr := (hT.below hB).utf
      cases f with
      | zero => omega
      | succ f =>
      have hru : runesF s (f + 1) pos = (pos, (Utf8.decode s pos).1, (Utf8.decode s pos).2) :: runesF s f (pos + (Utf8.decode s pos).2) := by simp [runesF, hp]
      have hnk : n + 1 ≤ s.size := by omega
      by_cases hk2 : kindR (Utf8.decode s pos).1 = 2
      · have HS : Hid (standB (Utf8.decode s pos).1 = false) := Lib.hid (by simp [standB, hk2])
        have H1 : Hid (splitR s = ([], n, 10)) := Lib.hid (by unfold splitR; rw [← HB.out, hru]; simp [badF, hk2, splitOut])
        clear hk2 hru
        go_wp2_with (first
          | (go_at_call 26; refine (refNext_at s t pos _ T2 HT.out hp).mono ?_; rintro e w2 ⟨rfl, hB2⟩)
          | (go_at_call 27; refine (refStands_no _ _ _ (badB_at s t pos HT.out hp) HS.out).mono ?_; rintro e w3 ⟨rfl, rfl⟩))
        go_ret3
        rw [H1.out]
        exact ⟨_, rfl, World.ownsRow_nil _ _ _ _, hB.trans (hB2.mono hB.size)⟩
      · have HS : Hid (standB (Utf8.decode s pos).1 = true) := Lib.hid (by simp [standB, hk2])
        by_cases hk1 : kindR (Utf8.decode s pos).1 = 1
        · have HBl : Hid (blankB (Utf8.decode s pos).1 = true) := Lib.hid (by simp [blankB, hk1])
          have H1 : Hid (soFar s pre inside a b pos ++ wordsF s (runesF s f (pos + (Utf8.decode s pos).2)) a b (n + 1) false = wordsR s) := Lib.hid (by
            rw [← HW.out, hru]
            cases inside <;> simp [wordsF, hk1, soFar])
          have H2 : Hid (badF (runesF s f (pos + (Utf8.decode s pos).2)) (n + 1) = badF (runes s) 0) := Lib.hid (by rw [← HB.out, hru]; simp [badF, hk2])
          have H3 : Hid (n + 1 + (runesF s f (pos + (Utf8.decode s pos).2)).length = (runes s).length) := Lib.hid (by rw [← HL.out, hru]; simp; omega)
          clear hk2 hk1 hru
          go_wp2_with (first
            | (go_at_call 26; refine (refNext_at s t pos _ T2 HT.out hp).mono ?_; rintro e w2 ⟨rfl, hB2⟩)
            | (go_at_call 27; refine (refStands_yes _ _ _ (badB_at s t pos HT.out hp) HS.out).mono ?_; rintro e w3 ⟨rfl, rfl⟩)
            | (go_at_call 17; refine (refBlank_yes _ _ HBl.out).mono ?_; rintro e w4 ⟨rfl, rfl⟩))
          go_roundw
          case rel =>
            refine ⟨pos + (Utf8.decode s pos).2, f, n + 1, false, a, b, soFar s pre inside a b pos, _, rfl, ?_, by go_num, rfl, hwl, by omega, by omega, by omega, by simp only [soFar] at hln ⊢; simp; omega, ?_, hB.trans (hB2.mono hB.size), H1.out, H2.out, H3.out⟩
            · rw [HT.out]; exact ext_ext s pos _
            · exact ownsRow_below hown hB2
          case measure => simp; omega
        · have HBl : Hid (blankB (Utf8.decode s pos).1 = false) := Lib.hid (by simp [blankB, hk1])
          have H2 : Hid (badF (runesF s f (pos + (Utf8.decode s pos).2)) (n + 1) = badF (runes s) 0) := Lib.hid (by rw [← HB.out, hru]; simp [badF, hk2])
          have H3 : Hid (n + 1 + (runesF s f (pos + (Utf8.decode s pos).2)).length = (runes s).length) := Lib.hid (by rw [← HL.out, hru]; simp; omega)
          cases inside with
          | true =>
            have H1 : Hid (pre ++ wordsF s (runesF s f (pos + (Utf8.decode s pos).2)) a b (n + 1) true = wordsR s) := Lib.hid (by
              rw [← HW.out, hru]
              simp [wordsF, hk1])
            clear hk2 hk1 hru
            have hsl : (soFar s pre true a b pos).length = pre.length + 1 := by simp [soFar]
            rw [hsl] at hown hln
            obtain ⟨g, cap, rfl⟩ := ownsRow_succ hown
            go_wp2_with (first
              | (go_at_call 26; refine (refNext_at s t pos _ T2 HT.out hp).mono ?_; rintro e w2 ⟨rfl, hB2⟩)
              | (go_at_call 27; refine (refStands_yes _ _ _ (badB_at s t pos HT.out hp) HS.out).mono ?_; rintro e w3 ⟨rfl, rfl⟩)
              | (go_at_call 17; refine (refBlank_no _ _ HBl.out).mono ?_; rintro e w4 ⟨rfl, rfl⟩))
            have hown2 := ownsRow_below hown hB2
            have hc1 : w2.cell? ⟨g, pre.length * 2 + 1, none⟩ = some (.string (s.extract b pos)) := by
              rw [hown2.cellAt _ (by omega)]
              exact flat_get pre (a, s.extract b pos)
            have hf1 : w2.frozen? ⟨g, pre.length * 2 + 1, none⟩ = false := hown2.frozenAt _
            clear hown
            have HO := Lib.hid (hown2.stored (pre.length * 2 + 1) (.string (s.extract b pos ++ t.extract 0 (Utf8.decode s pos).2))).1
            have hbg : w.heap.size ≤ g := (hown2.lt g rfl).1
            clear hown2
            go_region
            go_wp2
            go_roundw
            case rel =>
              refine ⟨pos + (Utf8.decode s pos).2, f, n + 1, true, a, b, pre, _, rfl, ?_, by go_num, rfl, hwl, by omega, by omega, by omega, by simp [soFar]; omega, ?_, ((hB.trans (hB2.mono hB.size)).setCell (p := ⟨g, pre.length * 2 + 1, none⟩) hbg _).drew, H1.out, H2.out, H3.out⟩
              · rw [HT.out]; exact ext_ext s pos _
              · have ho := HO.out
                rw [HT.out, ext_take, ext_append s b pos _ hbp (by omega)] at ho
                simp only [soFar, if_true] at ho ⊢
                rw [flat_set] at ho
                rw [List.length_append, List.length_singleton, HT.out, ext_take, ext_append s b pos _ hbp (by omega)]
                exact ho
            case measure => simp; omega
          | false =>
            have H1 : Hid (pre ++ wordsF s (runesF s f (pos + (Utf8.decode s pos).2)) n pos (n + 1) true = wordsR s) := Lib.hid (by
              rw [← HW.out, hru]
              simp [wordsF, hk1])
            clear hk2 hk1 hru
            have hsf : soFar s pre false a b pos = pre := by simp [soFar]
            rw [hsf] at hown hln
            clear hsf
            obtain ⟨i0, hi, hz0, hz1, hz2⟩ := info_parts info38
            have hsW := hB.size
            go_wp2_with (first
              | (go_at_call 26; refine (refNext_at s t pos _ T2 HT.out hp).mono ?_; rintro e w2 ⟨rfl, hB2⟩; have hsW2 := hB2.size; have hown2 := ownsRow_below hown hB2)
              | (go_at_call 27; refine (refStands_yes _ _ _ (badB_at s t pos HT.out hp) HS.out).mono ?_; rintro e w3 ⟨rfl, rfl⟩)
              | (go_at_call 17; refine (refBlank_no _ _ HBl.out).mono ?_; rintro e w4 ⟨rfl, rfl⟩)
              | (at_builtin; refine wpList_append_own _ rfl _ _ 24 rfl w.heap.size 38 i0 (.agg #[.int .i64 0, .string ⟨#[]⟩]) 2 24 Tryd.underlying24 hi hz0 hz1 hz2 rfl (by decide) _ _ _ rfl (hown2.alloc _) ⟨w2.heap.size, 0, none⟩ 1 1 [.int .i64 n, .string ⟨#[]⟩] rfl rfl (cells_two_new _ _ _ _) (by simp [Value.oneCell']) (by unfold maxLen; omega) (by omega) (by simp; omega) ?_; intro v' w5 hown5 hgrow _; obtain ⟨g, cap, rfl⟩ := ownsRow_succ hown5))
            have hB2w : Below w.heap.size w w2 := hB.trans (hB2.mono hB.size)
            have hB5 : Below w.heap.size w w5 := (hB2w.alloc hB2w.size _).grown hgrow (by simp; omega) (fun k e => (hown2.lt k e).1)
            have hown6 : w5.ownsRow w.heap.size 38 2 (.slice (some ⟨g, 0, none⟩) (pre.length + 1) cap) (pre.length + 1) ((pre ++ [(n, (⟨#[]⟩ : ByteArray))]).flatMap wordC) := by
              simpa [wordC] using hown5
            have hc1 : w5.cell? ⟨g, pre.length * 2 + 1, none⟩ = some (.string ⟨#[]⟩) := by
              rw [hown6.cellAt _ (by omega)]
              exact flat_get pre (n, ⟨#[]⟩)
            have hf1 : w5.frozen? ⟨g, pre.length * 2 + 1, none⟩ = false := hown6.frozenAt _
            have HO := Lib.hid (hown6.stored (pre.length * 2 + 1) (.string (⟨#[]⟩ ++ t.extract 0 (Utf8.decode s pos).2))).1
            have hbg : w.heap.size ≤ g := (hown6.lt g rfl).1
            clear hown2 hown5 hown6 hown hgrow
            go_region
            go_wp2
            go_roundw
            case rel =>
              refine ⟨pos + (Utf8.decode s pos).2, f, n + 1, true, n, pos, pre, _, rfl, ?_, by go_num, rfl, hwl, by omega, by omega, by omega, by simp [soFar]; omega, ?_, (hB5.setCell (p := ⟨g, pre.length * 2 + 1, none⟩) hbg _).drew, H1.out, H2.out, H3.out⟩
              · rw [HT.out]; exact ext_ext s pos _
              · have ho := HO.out
                rw [flat_set] at ho
                have e : (⟨#[]⟩ : ByteArray) ++ t.extract 0 (Utf8.decode s pos).2 = s.extract pos (pos + (Utf8.decode s pos).2) := by
                  rw [HT.out, ext_take]; exact ByteArray.empty_append
                rw [e] at ho ⊢
                simp only [soFar, if_true]
                rw [List.length_append, List.length_singleton]
                exact ho
            case measure => simp; omega
    · have hpt : t.size = 0 := by omega
      have H1 : Hid (splitR s = (wordsR s, n, 0)) := Lib.hid (by
        have hk : n = (runes s).length := by rw [← HL.out, runesF_end s f pos hp]; simp
        unfold splitR; rw [← HB.out, runesF_end s f pos hp]; simp [badF, splitOut, hk])
      have H2 : Hid (soFar s pre inside a b pos = wordsR s) := Lib.hid (by
        have hpe : pos = s.size := by omega
        rw [← HW.out, runesF_end s f pos hp, hpe]
        cases inside <;> simp [soFar, wordsF])
      clear hts
      rw [H2.out] at hown hln
      go_wp2
      go_ret3
      rw [H1.out]
      exact ⟨_, rfl, hown, hB⟩

end Go.Proofs.YtbdiphffdmakoaaDoor
