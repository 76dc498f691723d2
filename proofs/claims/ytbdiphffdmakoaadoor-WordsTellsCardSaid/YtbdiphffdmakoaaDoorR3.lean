/- The contract of the document's own Number (gyreref01): it tells what Number of package words tells, for every text of at most 2000000 bytes. -/
import Derived.Test.YtbdiphffdmakoaaDoorR2
namespace Go.Proofs.YtbdiphffdmakoaaDoor
open Go Go.RowKit Go.MapKept Go.Shelf

def NRel (s : ByteArray) (w : World) (below : Bool) (v0 v8 v9 v10 : Value) (wr : World) : Prop :=
  ∃ (pos f n many : Nat) (over : Bool) (t : ByteArray), v0 = .string t ∧ v8 = .int .i64 n ∧ v9 = .int .i64 many ∧ v10 = .bool over ∧ t = s.extract pos s.size ∧ t.size = s.size - pos ∧ n ≤ 1152921504606846976 ∧ many ≤ pos ∧ s.size ≤ pos + f ∧
    (pos = 0 → f = s.size) ∧ NumInv s below pos f n many over ∧ Below w.heap.size w wr

theorem nrel_plain (s : ByteArray) (w wr : World) (hB : Below w.heap.size w wr) (h : ∀ r, (runes s).head? = some r → (markR r.2.1).1 ≠ 2) : NRel s w false (.string s) (.int .i64 0) (.int .i64 0) (.bool false) wr :=
  ⟨0, s.size, 0, 0, false, s, rfl, rfl, rfl, rfl, (ext_all s).symm, by omega, by omega, by omega, by omega, fun _ => rfl,
    ⟨fun _ => by omega, fun _ => ⟨0, fun _ => rfl, (fun h => by cases h), rfl⟩, fun h => by omega, .inr h⟩, hB⟩

theorem nrel_minus (s : ByteArray) (w wr : World) (hB : Below w.heap.size w wr) (hs : 0 < s.size) (hm : markR (Utf8.decode s 0).1 = (2, 0)) :
    NRel s w true (.string (s.extract (Utf8.decode s 0).2 s.size)) (.int .i64 0) (.int .i64 0) (.bool false) wr := by
  have hw := width_pos s 0 hs
  have e : runes s = (0, (Utf8.decode s 0).1, (Utf8.decode s 0).2) :: runesF s (s.size - 1) (0 + (Utf8.decode s 0).2) := by
    unfold runes
    cases h : s.size with
    | zero => omega
    | succ n => simp [runesF, hs]
  refine ⟨(Utf8.decode s 0).2, s.size - 1, 0, 0, false, _, rfl, rfl, rfl, rfl, rfl, ext_size s _, by omega, by omega, by omega, fun h => by omega,
    ⟨fun _ => by omega, fun _ => ⟨0, fun _ => rfl, (fun h => by cases h), ?_⟩, fun h => by omega, .inl (by omega)⟩, hB⟩
  rw [e, numF_minus hm rfl, Nat.zero_add]

theorem head_of (s : ByteArray) (hs : 0 < s.size) (h : (markR (Utf8.decode s 0).1).1 ≠ 2) : ∀ r, (runes s).head? = some r → (markR r.2.1).1 ≠ 2 := by
  intro r hr
  obtain ⟨q, hq⟩ := runes_cons s hs
  rw [hq] at hr
  simp at hr
  subst hr
  exact h

theorem head_empty (s : ByteArray) (hs : s.size = 0) : ∀ r, (runes s).head? = some r → (markR r.2.1).1 ≠ 2 := by
  intro r hr
  unfold runes at hr
  rw [hs] at hr
  simp [runesF] at hr

theorem mark_two {c : Int} (h : c = 45 ∨ c = 8722) : markR c = (2, 0) := by unfold markR; rw [if_pos h]
theorem mark_two_not {c : Int} (h : ¬ (c = 45 ∨ c = 8722)) : (markR c).1 ≠ 2 := by
  unfold markR
  rw [if_neg h]
  split
  · exact fun h => by cases h
  · split
    · exact fun h => by cases h
    · exact fun h => by cases h

set_option maxRecDepth 100000 in
set_option maxHeartbeats 4000000 in
theorem refNumber_any (s : ByteArray) (w : World) (hs : s.size ≤ 2000000) (hT : Tabs w) :
    Calls Tryd.prog 12 #[.string s] w fun e w' => e = .returned (.tuple #[.int .i64 (numR s).1, .int .i64 (numR s).2]) ∧ Below w.heap.size w w' := by
  -- the ways to the loop
  have hways : (∃ h : 0 < s.size, (((Lib.decodeGo s).1 : Int) == 45) = true ∧ badB s = false ∧ Hid (markR (Utf8.decode s 0).1 = (2, 0)) ∧ Hid ((Lib.decodeGo s).2 = (Utf8.decode s 0).2)) ∨
      (∃ h : 0 < s.size, (((Lib.decodeGo s).1 : Int) == 45) = false ∧ (((Lib.decodeGo s).1 : Int) == 8722) = true ∧ badB s = false ∧ Hid (markR (Utf8.decode s 0).1 = (2, 0)) ∧ Hid ((Lib.decodeGo s).2 = (Utf8.decode s 0).2)) ∨
      (badB s = true ∧ Hid (∀ r, (runes s).head? = some r → (markR r.2.1).1 ≠ 2)) ∨
      ((((Lib.decodeGo s).1 : Int) == 45) = false ∧ (((Lib.decodeGo s).1 : Int) == 8722) = false ∧ badB s = false ∧ Hid (∀ r, (runes s).head? = some r → (markR r.2.1).1 ≠ 2)) := by
    have hbad := badB_rune s
    by_cases h0 : 0 < s.size
    · have hg := decodeGo_ext s s 0 (ext_all s).symm h0
      by_cases h45 : ((Lib.decodeGo s).1 : Int) = 45
      · left
        refine ⟨h0, by rw [h45]; rfl, ?_, Lib.hid (mark_two (.inl (by rw [← hg]; exact h45))), Lib.hid (by rw [hg])⟩
        cases hb : badB s with
        | false => rfl
        | true => have := hbad hb; omega
      · by_cases h8 : ((Lib.decodeGo s).1 : Int) = 8722
        · right; left
          refine ⟨h0, by simpa using h45, by rw [h8]; rfl, ?_, Lib.hid (mark_two (.inr (by rw [← hg]; exact h8))), Lib.hid (by rw [hg])⟩
          cases hb : badB s with
          | false => rfl
          | true => have := hbad hb; omega
        · have hh : Hid (∀ r, (runes s).head? = some r → (markR r.2.1).1 ≠ 2) := Lib.hid (head_of s h0 (mark_two_not (by rw [← hg]; omega)))
          cases hb : badB s with
          | true => right; right; left; exact ⟨rfl, hh⟩
          | false => right; right; right; exact ⟨by simpa using h45, by simpa using h8, rfl, hh⟩
    · have hz : s.size = 0 := by omega
      have hd : Lib.decodeGo s = (65533, 0) := by unfold Lib.decodeGo; rw [if_pos hz]
      right; right; right
      refine ⟨by rw [hd]; rfl, by rw [hd]; rfl, ?_, Lib.hid (head_empty s hz)⟩
      unfold badB; rw [hd]; rfl
  rcases hways with ⟨h0, b45, hbd, HM, HD⟩ | ⟨h0, b45, b87, hbd, HM, HD⟩ | ⟨hbd, HH⟩ | ⟨b45, b87, hbd, HH⟩
  · have hk : (Lib.decodeGo s).2 ≤ s.size := by rw [HD.out]; have := width_le s 0 h0; omega
    go_enter Tryd.func12, Tryd.ntmps12
    go_wp2_with (go_at_call 26; refine (refNext_any s _ hT.utf).mono ?_; rintro e w1 ⟨rfl, hB1⟩)
    have hstart := nrel_minus s w w1 hB1 h0 HM.out
    rw [← HD.out] at hstart
    clear b45 hbd hB1
    go_loopw [0, 8, 9, 10] (fun v0 v8 v9 v10 wr => NRel s w true v0 v8 v9 v10 wr) (fun v0 _ _ _ _ => match v0 with | .string t => t.size | _ => 0)
    case atStart => exact hstart
    case round =>
      clear hstart
      obtain ⟨pos, f, n, many, over, t, rfl, rfl, rfl, rfl, ht, hts, hn, hmp, hf, hf0, hinv, hB⟩ := hrel
      have HT := Lib.hid ht
      have HI := Lib.hid hinv
      have HTS := Lib.hid hts
      clear ht hinv
      by_cases hp : pos < s.size
      · have hpt : 0 < t.size := by omega
        have hwd := width_pos s pos hp
        have hwl := width_le s pos hp
        have hwt : (Utf8.decode s pos).2 ≤ t.size := by omega
        have hT2 := (hT.below hB).utf
        have hbr := badB_at s t pos HT.out hp
        clear hts
        cases f with
        | zero => omega
        | succ f =>
        rcases digV_mark (Utf8.decode s pos).1 with ⟨d, hd9, hmk, hdv⟩ | ⟨hmk, hdv⟩
        · have hbt : badB t = false := by
            cases hb : badB t with
            | false => rfl
            | true =>
              have := hbr hb
              rw [this] at hdv
              have e : digV 65533 = -1 := rfl
              rw [e] at hdv
              omega
          have hnext := HI.out.digit hp hmk
          have HDV := Lib.hid hdv
          clear hbr hmk hdv HI hf0
          have hdig := fun W => (refDigit_any ((Utf8.decode s pos).1 : Int) W)
          rw [HDV.out] at hdig
          by_cases htst : (1152921504606846976 - d) / 10 < n
          · have d1 : decide ((1152921504606846976 - (d : Int)) / 10 < (n : Int)) = true := by simp; omega
            have HNX : Hid (NumInv s true (pos + (Utf8.decode s pos).2) f n (many + 1) true) := Lib.hid (by simpa [htst] using hnext)
            clear hnext
            cases over with
            | true =>
              as_aux_lemma =>
              go_wp2_with (first
                | (go_at_call 26; refine (refNext_at s t pos _ hT2 HT.out hp).mono ?_; rintro e w2 ⟨rfl, hB2⟩)
                | (go_at_call 30; refine (hdig _).mono ?_; rintro e w3 ⟨rfl, rfl⟩))
              go_roundw
              case rel =>
                refine ⟨pos + (Utf8.decode s pos).2, f, n, many + 1, true, _, rfl, by go_num, by go_num, rfl, ?_, ?_, by omega, by omega, by omega, fun h => by omega, HNX.out, hB.trans (hB2.mono hB.size)⟩
                · rw [HT.out]; exact ext_ext s pos _
                · have e := HTS.out
                  have e2 : (t.extract (Utf8.decode s pos).2 t.size).size = t.size - (Utf8.decode s pos).2 := by simp
                  omega
              case measure =>
                have e2 : (t.extract (Utf8.decode s pos).2 t.size).size = t.size - (Utf8.decode s pos).2 := by simp
                simp; omega
            | false =>
              as_aux_lemma =>
              go_wp2_with (first
                | (go_at_call 26; refine (refNext_at s t pos _ hT2 HT.out hp).mono ?_; rintro e w2 ⟨rfl, hB2⟩)
                | (go_at_call 30; refine (hdig _).mono ?_; rintro e w3 ⟨rfl, rfl⟩))
              go_roundw
              case rel =>
                refine ⟨pos + (Utf8.decode s pos).2, f, n, many + 1, true, _, rfl, by go_num, by go_num, rfl, ?_, ?_, by omega, by omega, by omega, fun h => by omega, HNX.out, hB.trans (hB2.mono hB.size)⟩
                · rw [HT.out]; exact ext_ext s pos _
                · have e := HTS.out
                  have e2 : (t.extract (Utf8.decode s pos).2 t.size).size = t.size - (Utf8.decode s pos).2 := by simp
                  omega
              case measure =>
                have e2 : (t.extract (Utf8.decode s pos).2 t.size).size = t.size - (Utf8.decode s pos).2 := by simp
                simp; omega
          · have d1 : decide ((1152921504606846976 - (d : Int)) / 10 < (n : Int)) = false := by simp; omega
            have hle : 10 * n + d ≤ 1152921504606846976 := by omega
            cases over with
            | true =>
              have HNX : Hid (NumInv s true (pos + (Utf8.decode s pos).2) f n (many + 1) true) := Lib.hid (by simpa [htst] using hnext)
              clear hnext
              as_aux_lemma =>
              go_wp2_with (first
                | (go_at_call 26; refine (refNext_at s t pos _ hT2 HT.out hp).mono ?_; rintro e w2 ⟨rfl, hB2⟩)
                | (go_at_call 30; refine (hdig _).mono ?_; rintro e w3 ⟨rfl, rfl⟩))
              go_roundw
              case rel =>
                refine ⟨pos + (Utf8.decode s pos).2, f, n, many + 1, true, _, rfl, by go_num, by go_num, rfl, ?_, ?_, by omega, by omega, by omega, fun h => by omega, HNX.out, hB.trans (hB2.mono hB.size)⟩
                · rw [HT.out]; exact ext_ext s pos _
                · have e := HTS.out
                  have e2 : (t.extract (Utf8.decode s pos).2 t.size).size = t.size - (Utf8.decode s pos).2 := by simp
                  omega
              case measure =>
                have e2 : (t.extract (Utf8.decode s pos).2 t.size).size = t.size - (Utf8.decode s pos).2 := by simp
                simp; omega
            | false =>
              have HNX : Hid (NumInv s true (pos + (Utf8.decode s pos).2) f (10 * n + d) (many + 1) false) := Lib.hid (by simpa [htst] using hnext)
              clear hnext
              as_aux_lemma =>
              go_wp2_with (first
                | (go_at_call 26; refine (refNext_at s t pos _ hT2 HT.out hp).mono ?_; rintro e w2 ⟨rfl, hB2⟩)
                | (go_at_call 30; refine (hdig _).mono ?_; rintro e w3 ⟨rfl, rfl⟩))
              go_roundw
              case rel =>
                refine ⟨pos + (Utf8.decode s pos).2, f, 10 * n + d, many + 1, false, _, rfl, by go_num, by go_num, rfl, ?_, ?_, by omega, by omega, by omega, fun h => by omega, HNX.out, hB.trans (hB2.mono hB.size)⟩
                · rw [HT.out]; exact ext_ext s pos _
                · have e := HTS.out
                  have e2 : (t.extract (Utf8.decode s pos).2 t.size).size = t.size - (Utf8.decode s pos).2 := by simp
                  omega
              case measure =>
                have e2 : (t.extract (Utf8.decode s pos).2 t.size).size = t.size - (Utf8.decode s pos).2 := by simp
                simp; omega
        · have H2 : Hid (numR s = (0, 12)) := Lib.hid (HI.out.bad hp hf0 hmk)
          have HDV := Lib.hid hdv
          clear hbr hmk hdv HI hf0
          have hdig := fun W => (refDigit_any ((Utf8.decode s pos).1 : Int) W)
          rw [HDV.out] at hdig
          rcases Bool.eq_false_or_eq_true (badB t) with hbt | hbt
          · as_aux_lemma =>
              go_wp2_with (first
                | (go_at_call 26; refine (refNext_at s t pos _ hT2 HT.out hp).mono ?_; rintro e w2 ⟨rfl, hB2⟩)
                | (go_at_call 30; refine (hdig _).mono ?_; rintro e w3 ⟨rfl, rfl⟩))
              go_ret2
              rw [H2.out]
              exact ⟨rfl, hB.trans (hB2.mono hB.size)⟩
          · as_aux_lemma =>
              go_wp2_with (first
                | (go_at_call 26; refine (refNext_at s t pos _ hT2 HT.out hp).mono ?_; rintro e w2 ⟨rfl, hB2⟩)
                | (go_at_call 30; refine (hdig _).mono ?_; rintro e w3 ⟨rfl, rfl⟩))
              go_ret2
              rw [H2.out]
              exact ⟨rfl, hB.trans (hB2.mono hB.size)⟩
      · have hpt : t.size = 0 := by omega
        have HO := Lib.hid (HI.out.out hp)
        clear hts HI HT HTS hf0
        by_cases h1 : many < 1
        · have d1 : decide ((many : Int) < 1) = true := by simp; omega
          have H2 : Hid (numR s = (0, 12)) := Lib.hid (by rw [HO.out, if_pos (show many < 1 ∨ 20 < many by omega)])
          as_aux_lemma =>
            go_wp2
            go_ret2
            rw [H2.out]
            exact ⟨rfl, hB⟩
        · have d1 : decide ((many : Int) < 1) = false := by simp; omega
          by_cases h20 : 20 < many
          · have d2 : decide (20 < (many : Int)) = true := by simp; omega
            have H2 : Hid (numR s = (0, 12)) := Lib.hid (by rw [HO.out, if_pos (show many < 1 ∨ 20 < many by omega)])
            as_aux_lemma =>
              go_wp2
              go_ret2
              rw [H2.out]
              exact ⟨rfl, hB⟩
          · have d2 : decide (20 < (many : Int)) = false := by simp; omega
            cases over with
            | true =>
              have H2 : Hid (numR s = (0, 20)) := Lib.hid (by rw [HO.out, if_neg (show ¬ (many < 1 ∨ 20 < many) by omega)]; rfl)
              as_aux_lemma =>
                go_wp2
                go_ret2
                rw [H2.out]
                exact ⟨rfl, hB⟩
            | false =>
              have H2 : Hid (numR s = (-(n : Int), 0)) := Lib.hid (by rw [HO.out, if_neg (show ¬ (many < 1 ∨ 20 < many) by omega)]; rfl)
              as_aux_lemma =>
                go_wp2
                go_ret2
                rw [H2.out]
                exact ⟨rfl, hB⟩
  · have hk : (Lib.decodeGo s).2 ≤ s.size := by rw [HD.out]; have := width_le s 0 h0; omega
    go_enter Tryd.func12, Tryd.ntmps12
    go_wp2_with (go_at_call 26; refine (refNext_any s _ hT.utf).mono ?_; rintro e w1 ⟨rfl, hB1⟩)
    have hstart := nrel_minus s w w1 hB1 h0 HM.out
    rw [← HD.out] at hstart
    clear b45 b87 hbd hB1
    go_loopw [0, 8, 9, 10] (fun v0 v8 v9 v10 wr => NRel s w true v0 v8 v9 v10 wr) (fun v0 _ _ _ _ => match v0 with | .string t => t.size | _ => 0)
    case atStart => exact hstart
    case round =>
      clear hstart
      obtain ⟨pos, f, n, many, over, t, rfl, rfl, rfl, rfl, ht, hts, hn, hmp, hf, hf0, hinv, hB⟩ := hrel
      have HT := Lib.hid ht
      have HI := Lib.hid hinv
      have HTS := Lib.hid hts
      clear ht hinv
      by_cases hp : pos < s.size
      · have hpt : 0 < t.size := by omega
        have hwd := width_pos s pos hp
        have hwl := width_le s pos hp
        have hwt : (Utf8.decode s pos).2 ≤ t.size := by omega
        have hT2 := (hT.below hB).utf
        have hbr := badB_at s t pos HT.out hp
        clear hts
        cases f with
        | zero => omega
        | succ f =>
        rcases digV_mark (Utf8.decode s pos).1 with ⟨d, hd9, hmk, hdv⟩ | ⟨hmk, hdv⟩
        · have hbt : badB t = false := by
            cases hb : badB t with
            | false => rfl
            | true =>
              have := hbr hb
              rw [this] at hdv
              have e : digV 65533 = -1 := rfl
              rw [e] at hdv
              omega
          have hnext := HI.out.digit hp hmk
          have HDV := Lib.hid hdv
          clear hbr hmk hdv HI hf0
          have hdig := fun W => (refDigit_any ((Utf8.decode s pos).1 : Int) W)
          rw [HDV.out] at hdig
          by_cases htst : (1152921504606846976 - d) / 10 < n
          · have d1 : decide ((1152921504606846976 - (d : Int)) / 10 < (n : Int)) = true := by simp; omega
            have HNX : Hid (NumInv s true (pos + (Utf8.decode s pos).2) f n (many + 1) true) := Lib.hid (by simpa [htst] using hnext)
            clear hnext
            cases over with
            | true =>
              as_aux_lemma =>
              go_wp2_with (first
                | (go_at_call 26; refine (refNext_at s t pos _ hT2 HT.out hp).mono ?_; rintro e w2 ⟨rfl, hB2⟩)
                | (go_at_call 30; refine (hdig _).mono ?_; rintro e w3 ⟨rfl, rfl⟩))
              go_roundw
              case rel =>
                refine ⟨pos + (Utf8.decode s pos).2, f, n, many + 1, true, _, rfl, by go_num, by go_num, rfl, ?_, ?_, by omega, by omega, by omega, fun h => by omega, HNX.out, hB.trans (hB2.mono hB.size)⟩
                · rw [HT.out]; exact ext_ext s pos _
                · have e := HTS.out
                  have e2 : (t.extract (Utf8.decode s pos).2 t.size).size = t.size - (Utf8.decode s pos).2 := by simp
                  omega
              case measure =>
                have e2 : (t.extract (Utf8.decode s pos).2 t.size).size = t.size - (Utf8.decode s pos).2 := by simp
                simp; omega
            | false =>
              as_aux_lemma =>
              go_wp2_with (first
                | (go_at_call 26; refine (refNext_at s t pos _ hT2 HT.out hp).mono ?_; rintro e w2 ⟨rfl, hB2⟩)
                | (go_at_call 30; refine (hdig _).mono ?_; rintro e w3 ⟨rfl, rfl⟩))
              go_roundw
              case rel =>
                refine ⟨pos + (Utf8.decode s pos).2, f, n, many + 1, true, _, rfl, by go_num, by go_num, rfl, ?_, ?_, by omega, by omega, by omega, fun h => by omega, HNX.out, hB.trans (hB2.mono hB.size)⟩
                · rw [HT.out]; exact ext_ext s pos _
                · have e := HTS.out
                  have e2 : (t.extract (Utf8.decode s pos).2 t.size).size = t.size - (Utf8.decode s pos).2 := by simp
                  omega
              case measure =>
                have e2 : (t.extract (Utf8.decode s pos).2 t.size).size = t.size - (Utf8.decode s pos).2 := by simp
                simp; omega
          · have d1 : decide ((1152921504606846976 - (d : Int)) / 10 < (n : Int)) = false := by simp; omega
            have hle : 10 * n + d ≤ 1152921504606846976 := by omega
            cases over with
            | true =>
              have HNX : Hid (NumInv s true (pos + (Utf8.decode s pos).2) f n (many + 1) true) := Lib.hid (by simpa [htst] using hnext)
              clear hnext
              as_aux_lemma =>
              go_wp2_with (first
                | (go_at_call 26; refine (refNext_at s t pos _ hT2 HT.out hp).mono ?_; rintro e w2 ⟨rfl, hB2⟩)
                | (go_at_call 30; refine (hdig _).mono ?_; rintro e w3 ⟨rfl, rfl⟩))
              go_roundw
              case rel =>
                refine ⟨pos + (Utf8.decode s pos).2, f, n, many + 1, true, _, rfl, by go_num, by go_num, rfl, ?_, ?_, by omega, by omega, by omega, fun h => by omega, HNX.out, hB.trans (hB2.mono hB.size)⟩
                · rw [HT.out]; exact ext_ext s pos _
                · have e := HTS.out
                  have e2 : (t.extract (Utf8.decode s pos).2 t.size).size = t.size - (Utf8.decode s pos).2 := by simp
                  omega
              case measure =>
                have e2 : (t.extract (Utf8.decode s pos).2 t.size).size = t.size - (Utf8.decode s pos).2 := by simp
                simp; omega
            | false =>
              have HNX : Hid (NumInv s true (pos + (Utf8.decode s pos).2) f (10 * n + d) (many + 1) false) := Lib.hid (by simpa [htst] using hnext)
              clear hnext
              as_aux_lemma =>
              go_wp2_with (first
                | (go_at_call 26; refine (refNext_at s t pos _ hT2 HT.out hp).mono ?_; rintro e w2 ⟨rfl, hB2⟩)
                | (go_at_call 30; refine (hdig _).mono ?_; rintro e w3 ⟨rfl, rfl⟩))
              go_roundw
              case rel =>
                refine ⟨pos + (Utf8.decode s pos).2, f, 10 * n + d, many + 1, false, _, rfl, by go_num, by go_num, rfl, ?_, ?_, by omega, by omega, by omega, fun h => by omega, HNX.out, hB.trans (hB2.mono hB.size)⟩
                · rw [HT.out]; exact ext_ext s pos _
                · have e := HTS.out
                  have e2 : (t.extract (Utf8.decode s pos).2 t.size).size = t.size - (Utf8.decode s pos).2 := by simp
                  omega
              case measure =>
                have e2 : (t.extract (Utf8.decode s pos).2 t.size).size = t.size - (Utf8.decode s pos).2 := by simp
                simp; omega
        · have H2 : Hid (numR s = (0, 12)) := Lib.hid (HI.out.bad hp hf0 hmk)
          have HDV := Lib.hid hdv
          clear hbr hmk hdv HI hf0
          have hdig := fun W => (refDigit_any ((Utf8.decode s pos).1 : Int) W)
          rw [HDV.out] at hdig
          rcases Bool.eq_false_or_eq_true (badB t) with hbt | hbt
          · as_aux_lemma =>
              go_wp2_with (first
                | (go_at_call 26; refine (refNext_at s t pos _ hT2 HT.out hp).mono ?_; rintro e w2 ⟨rfl, hB2⟩)
                | (go_at_call 30; refine (hdig _).mono ?_; rintro e w3 ⟨rfl, rfl⟩))
              go_ret2
              rw [H2.out]
              exact ⟨rfl, hB.trans (hB2.mono hB.size)⟩
          · as_aux_lemma =>
              go_wp2_with (first
                | (go_at_call 26; refine (refNext_at s t pos _ hT2 HT.out hp).mono ?_; rintro e w2 ⟨rfl, hB2⟩)
                | (go_at_call 30; refine (hdig _).mono ?_; rintro e w3 ⟨rfl, rfl⟩))
              go_ret2
              rw [H2.out]
              exact ⟨rfl, hB.trans (hB2.mono hB.size)⟩
      · have hpt : t.size = 0 := by omega
        have HO := Lib.hid (HI.out.out hp)
        clear hts HI HT HTS hf0
        by_cases h1 : many < 1
        · have d1 : decide ((many : Int) < 1) = true := by simp; omega
          have H2 : Hid (numR s = (0, 12)) := Lib.hid (by rw [HO.out, if_pos (show many < 1 ∨ 20 < many by omega)])
          as_aux_lemma =>
            go_wp2
            go_ret2
            rw [H2.out]
            exact ⟨rfl, hB⟩
        · have d1 : decide ((many : Int) < 1) = false := by simp; omega
          by_cases h20 : 20 < many
          · have d2 : decide (20 < (many : Int)) = true := by simp; omega
            have H2 : Hid (numR s = (0, 12)) := Lib.hid (by rw [HO.out, if_pos (show many < 1 ∨ 20 < many by omega)])
            as_aux_lemma =>
              go_wp2
              go_ret2
              rw [H2.out]
              exact ⟨rfl, hB⟩
          · have d2 : decide (20 < (many : Int)) = false := by simp; omega
            cases over with
            | true =>
              have H2 : Hid (numR s = (0, 20)) := Lib.hid (by rw [HO.out, if_neg (show ¬ (many < 1 ∨ 20 < many) by omega)]; rfl)
              as_aux_lemma =>
                go_wp2
                go_ret2
                rw [H2.out]
                exact ⟨rfl, hB⟩
            | false =>
              have H2 : Hid (numR s = (-(n : Int), 0)) := Lib.hid (by rw [HO.out, if_neg (show ¬ (many < 1 ∨ 20 < many) by omega)]; rfl)
              as_aux_lemma =>
                go_wp2
                go_ret2
                rw [H2.out]
                exact ⟨rfl, hB⟩
  · go_enter Tryd.func12, Tryd.ntmps12
    go_wp2_with (go_at_call 26; refine (refNext_any s _ hT.utf).mono ?_; rintro e w1 ⟨rfl, hB1⟩)
    have hstart := nrel_plain s w w1 hB1 HH.out
    clear HH hbd hB1
    go_loopw [0, 8, 9, 10] (fun v0 v8 v9 v10 wr => NRel s w false v0 v8 v9 v10 wr) (fun v0 _ _ _ _ => match v0 with | .string t => t.size | _ => 0)
    case atStart => exact hstart
    case round =>
      clear hstart
      obtain ⟨pos, f, n, many, over, t, rfl, rfl, rfl, rfl, ht, hts, hn, hmp, hf, hf0, hinv, hB⟩ := hrel
      have HT := Lib.hid ht
      have HI := Lib.hid hinv
      have HTS := Lib.hid hts
      clear ht hinv
      by_cases hp : pos < s.size
      · have hpt : 0 < t.size := by omega
        have hwd := width_pos s pos hp
        have hwl := width_le s pos hp
        have hwt : (Utf8.decode s pos).2 ≤ t.size := by omega
        have hT2 := (hT.below hB).utf
        have hbr := badB_at s t pos HT.out hp
        clear hts
        cases f with
        | zero => omega
        | succ f =>
        rcases digV_mark (Utf8.decode s pos).1 with ⟨d, hd9, hmk, hdv⟩ | ⟨hmk, hdv⟩
        · have hbt : badB t = false := by
            cases hb : badB t with
            | false => rfl
            | true =>
              have := hbr hb
              rw [this] at hdv
              have e : digV 65533 = -1 := rfl
              rw [e] at hdv
              omega
          have hnext := HI.out.digit hp hmk
          have HDV := Lib.hid hdv
          clear hbr hmk hdv HI hf0
          have hdig := fun W => (refDigit_any ((Utf8.decode s pos).1 : Int) W)
          rw [HDV.out] at hdig
          by_cases htst : (1152921504606846976 - d) / 10 < n
          · have d1 : decide ((1152921504606846976 - (d : Int)) / 10 < (n : Int)) = true := by simp; omega
            have HNX : Hid (NumInv s false (pos + (Utf8.decode s pos).2) f n (many + 1) true) := Lib.hid (by simpa [htst] using hnext)
            clear hnext
            cases over with
            | true =>
              as_aux_lemma =>
              go_wp2_with (first
                | (go_at_call 26; refine (refNext_at s t pos _ hT2 HT.out hp).mono ?_; rintro e w2 ⟨rfl, hB2⟩)
                | (go_at_call 30; refine (hdig _).mono ?_; rintro e w3 ⟨rfl, rfl⟩))
              go_roundw
              case rel =>
                refine ⟨pos + (Utf8.decode s pos).2, f, n, many + 1, true, _, rfl, by go_num, by go_num, rfl, ?_, ?_, by omega, by omega, by omega, fun h => by omega, HNX.out, hB.trans (hB2.mono hB.size)⟩
                · rw [HT.out]; exact ext_ext s pos _
                · have e := HTS.out
                  have e2 : (t.extract (Utf8.decode s pos).2 t.size).size = t.size - (Utf8.decode s pos).2 := by simp
                  omega
              case measure =>
                have e2 : (t.extract (Utf8.decode s pos).2 t.size).size = t.size - (Utf8.decode s pos).2 := by simp
                simp; omega
            | false =>
              as_aux_lemma =>
              go_wp2_with (first
                | (go_at_call 26; refine (refNext_at s t pos _ hT2 HT.out hp).mono ?_; rintro e w2 ⟨rfl, hB2⟩)
                | (go_at_call 30; refine (hdig _).mono ?_; rintro e w3 ⟨rfl, rfl⟩))
              go_roundw
              case rel =>
                refine ⟨pos + (Utf8.decode s pos).2, f, n, many + 1, true, _, rfl, by go_num, by go_num, rfl, ?_, ?_, by omega, by omega, by omega, fun h => by omega, HNX.out, hB.trans (hB2.mono hB.size)⟩
                · rw [HT.out]; exact ext_ext s pos _
                · have e := HTS.out
                  have e2 : (t.extract (Utf8.decode s pos).2 t.size).size = t.size - (Utf8.decode s pos).2 := by simp
                  omega
              case measure =>
                have e2 : (t.extract (Utf8.decode s pos).2 t.size).size = t.size - (Utf8.decode s pos).2 := by simp
                simp; omega
          · have d1 : decide ((1152921504606846976 - (d : Int)) / 10 < (n : Int)) = false := by simp; omega
            have hle : 10 * n + d ≤ 1152921504606846976 := by omega
            cases over with
            | true =>
              have HNX : Hid (NumInv s false (pos + (Utf8.decode s pos).2) f n (many + 1) true) := Lib.hid (by simpa [htst] using hnext)
              clear hnext
              as_aux_lemma =>
              go_wp2_with (first
                | (go_at_call 26; refine (refNext_at s t pos _ hT2 HT.out hp).mono ?_; rintro e w2 ⟨rfl, hB2⟩)
                | (go_at_call 30; refine (hdig _).mono ?_; rintro e w3 ⟨rfl, rfl⟩))
              go_roundw
              case rel =>
                refine ⟨pos + (Utf8.decode s pos).2, f, n, many + 1, true, _, rfl, by go_num, by go_num, rfl, ?_, ?_, by omega, by omega, by omega, fun h => by omega, HNX.out, hB.trans (hB2.mono hB.size)⟩
                · rw [HT.out]; exact ext_ext s pos _
                · have e := HTS.out
                  have e2 : (t.extract (Utf8.decode s pos).2 t.size).size = t.size - (Utf8.decode s pos).2 := by simp
                  omega
              case measure =>
                have e2 : (t.extract (Utf8.decode s pos).2 t.size).size = t.size - (Utf8.decode s pos).2 := by simp
                simp; omega
            | false =>
              have HNX : Hid (NumInv s false (pos + (Utf8.decode s pos).2) f (10 * n + d) (many + 1) false) := Lib.hid (by simpa [htst] using hnext)
              clear hnext
              as_aux_lemma =>
              go_wp2_with (first
                | (go_at_call 26; refine (refNext_at s t pos _ hT2 HT.out hp).mono ?_; rintro e w2 ⟨rfl, hB2⟩)
                | (go_at_call 30; refine (hdig _).mono ?_; rintro e w3 ⟨rfl, rfl⟩))
              go_roundw
              case rel =>
                refine ⟨pos + (Utf8.decode s pos).2, f, 10 * n + d, many + 1, false, _, rfl, by go_num, by go_num, rfl, ?_, ?_, by omega, by omega, by omega, fun h => by omega, HNX.out, hB.trans (hB2.mono hB.size)⟩
                · rw [HT.out]; exact ext_ext s pos _
                · have e := HTS.out
                  have e2 : (t.extract (Utf8.decode s pos).2 t.size).size = t.size - (Utf8.decode s pos).2 := by simp
                  omega
              case measure =>
                have e2 : (t.extract (Utf8.decode s pos).2 t.size).size = t.size - (Utf8.decode s pos).2 := by simp
                simp; omega
        · have H2 : Hid (numR s = (0, 12)) := Lib.hid (HI.out.bad hp hf0 hmk)
          have HDV := Lib.hid hdv
          clear hbr hmk hdv HI hf0
          have hdig := fun W => (refDigit_any ((Utf8.decode s pos).1 : Int) W)
          rw [HDV.out] at hdig
          rcases Bool.eq_false_or_eq_true (badB t) with hbt | hbt
          · as_aux_lemma =>
              go_wp2_with (first
                | (go_at_call 26; refine (refNext_at s t pos _ hT2 HT.out hp).mono ?_; rintro e w2 ⟨rfl, hB2⟩)
                | (go_at_call 30; refine (hdig _).mono ?_; rintro e w3 ⟨rfl, rfl⟩))
              go_ret2
              rw [H2.out]
              exact ⟨rfl, hB.trans (hB2.mono hB.size)⟩
          · as_aux_lemma =>
              go_wp2_with (first
                | (go_at_call 26; refine (refNext_at s t pos _ hT2 HT.out hp).mono ?_; rintro e w2 ⟨rfl, hB2⟩)
                | (go_at_call 30; refine (hdig _).mono ?_; rintro e w3 ⟨rfl, rfl⟩))
              go_ret2
              rw [H2.out]
              exact ⟨rfl, hB.trans (hB2.mono hB.size)⟩
      · have hpt : t.size = 0 := by omega
        have HO := Lib.hid (HI.out.out hp)
        clear hts HI HT HTS hf0
        by_cases h1 : many < 1
        · have d1 : decide ((many : Int) < 1) = true := by simp; omega
          have H2 : Hid (numR s = (0, 12)) := Lib.hid (by rw [HO.out, if_pos (show many < 1 ∨ 20 < many by omega)])
          as_aux_lemma =>
            go_wp2
            go_ret2
            rw [H2.out]
            exact ⟨rfl, hB⟩
        · have d1 : decide ((many : Int) < 1) = false := by simp; omega
          by_cases h20 : 20 < many
          · have d2 : decide (20 < (many : Int)) = true := by simp; omega
            have H2 : Hid (numR s = (0, 12)) := Lib.hid (by rw [HO.out, if_pos (show many < 1 ∨ 20 < many by omega)])
            as_aux_lemma =>
              go_wp2
              go_ret2
              rw [H2.out]
              exact ⟨rfl, hB⟩
          · have d2 : decide (20 < (many : Int)) = false := by simp; omega
            cases over with
            | true =>
              have H2 : Hid (numR s = (0, 20)) := Lib.hid (by rw [HO.out, if_neg (show ¬ (many < 1 ∨ 20 < many) by omega)]; rfl)
              as_aux_lemma =>
                go_wp2
                go_ret2
                rw [H2.out]
                exact ⟨rfl, hB⟩
            | false =>
              have H2 : Hid (numR s = ((n : Int), 0)) := Lib.hid (by rw [HO.out, if_neg (show ¬ (many < 1 ∨ 20 < many) by omega)]; rfl)
              as_aux_lemma =>
                go_wp2
                go_ret2
                rw [H2.out]
                exact ⟨rfl, hB⟩
  · go_enter Tryd.func12, Tryd.ntmps12
    go_wp2_with (go_at_call 26; refine (refNext_any s _ hT.utf).mono ?_; rintro e w1 ⟨rfl, hB1⟩)
    have hstart := nrel_plain s w w1 hB1 HH.out
    clear HH b45 b87 hbd hB1
    go_loopw [0, 8, 9, 10] (fun v0 v8 v9 v10 wr => NRel s w false v0 v8 v9 v10 wr) (fun v0 _ _ _ _ => match v0 with | .string t => t.size | _ => 0)
    case atStart => exact hstart
    case round =>
      clear hstart
      obtain ⟨pos, f, n, many, over, t, rfl, rfl, rfl, rfl, ht, hts, hn, hmp, hf, hf0, hinv, hB⟩ := hrel
      have HT := Lib.hid ht
      have HI := Lib.hid hinv
      have HTS := Lib.hid hts
      clear ht hinv
      by_cases hp : pos < s.size
      · have hpt : 0 < t.size := by omega
        have hwd := width_pos s pos hp
        have hwl := width_le s pos hp
        have hwt : (Utf8.decode s pos).2 ≤ t.size := by omega
        have hT2 := (hT.below hB).utf
        have hbr := badB_at s t pos HT.out hp
        clear hts
        cases f with
        | zero => omega
        | succ f =>
        rcases digV_mark (Utf8.decode s pos).1 with ⟨d, hd9, hmk, hdv⟩ | ⟨hmk, hdv⟩
        · have hbt : badB t = false := by
            cases hb : badB t with
            | false => rfl
            | true =>
              have := hbr hb
              rw [this] at hdv
              have e : digV 65533 = -1 := rfl
              rw [e] at hdv
              omega
          have hnext := HI.out.digit hp hmk
          have HDV := Lib.hid hdv
          clear hbr hmk hdv HI hf0
          have hdig := fun W => (refDigit_any ((Utf8.decode s pos).1 : Int) W)
          rw [HDV.out] at hdig
          by_cases htst : (1152921504606846976 - d) / 10 < n
          · have d1 : decide ((1152921504606846976 - (d : Int)) / 10 < (n : Int)) = true := by simp; omega
            have HNX : Hid (NumInv s false (pos + (Utf8.decode s pos).2) f n (many + 1) true) := Lib.hid (by simpa [htst] using hnext)
            clear hnext
            cases over with
            | true =>
              as_aux_lemma =>
              go_wp2_with (first
                | (go_at_call 26; refine (refNext_at s t pos _ hT2 HT.out hp).mono ?_; rintro e w2 ⟨rfl, hB2⟩)
                | (go_at_call 30; refine (hdig _).mono ?_; rintro e w3 ⟨rfl, rfl⟩))
              go_roundw
              case rel =>
                refine ⟨pos + (Utf8.decode s pos).2, f, n, many + 1, true, _, rfl, by go_num, by go_num, rfl, ?_, ?_, by omega, by omega, by omega, fun h => by omega, HNX.out, hB.trans (hB2.mono hB.size)⟩
                · rw [HT.out]; exact ext_ext s pos _
                · have e := HTS.out
                  have e2 : (t.extract (Utf8.decode s pos).2 t.size).size = t.size - (Utf8.decode s pos).2 := by simp
                  omega
              case measure =>
                have e2 : (t.extract (Utf8.decode s pos).2 t.size).size = t.size - (Utf8.decode s pos).2 := by simp
                simp; omega
            | false =>
              as_aux_lemma =>
              go_wp2_with (first
                | (go_at_call 26; refine (refNext_at s t pos _ hT2 HT.out hp).mono ?_; rintro e w2 ⟨rfl, hB2⟩)
                | (go_at_call 30; refine (hdig _).mono ?_; rintro e w3 ⟨rfl, rfl⟩))
              go_roundw
              case rel =>
                refine ⟨pos + (Utf8.decode s pos).2, f, n, many + 1, true, _, rfl, by go_num, by go_num, rfl, ?_, ?_, by omega, by omega, by omega, fun h => by omega, HNX.out, hB.trans (hB2.mono hB.size)⟩
                · rw [HT.out]; exact ext_ext s pos _
                · have e := HTS.out
                  have e2 : (t.extract (Utf8.decode s pos).2 t.size).size = t.size - (Utf8.decode s pos).2 := by simp
                  omega
              case measure =>
                have e2 : (t.extract (Utf8.decode s pos).2 t.size).size = t.size - (Utf8.decode s pos).2 := by simp
                simp; omega
          · have d1 : decide ((1152921504606846976 - (d : Int)) / 10 < (n : Int)) = false := by simp; omega
            have hle : 10 * n + d ≤ 1152921504606846976 := by omega
            cases over with
            | true =>
              have HNX : Hid (NumInv s false (pos + (Utf8.decode s pos).2) f n (many + 1) true) := Lib.hid (by simpa [htst] using hnext)
              clear hnext
              as_aux_lemma =>
              go_wp2_with (first
                | (go_at_call 26; refine (refNext_at s t pos _ hT2 HT.out hp).mono ?_; rintro e w2 ⟨rfl, hB2⟩)
                | (go_at_call 30; refine (hdig _).mono ?_; rintro e w3 ⟨rfl, rfl⟩))
              go_roundw
              case rel =>
                refine ⟨pos + (Utf8.decode s pos).2, f, n, many + 1, true, _, rfl, by go_num, by go_num, rfl, ?_, ?_, by omega, by omega, by omega, fun h => by omega, HNX.out, hB.trans (hB2.mono hB.size)⟩
                · rw [HT.out]; exact ext_ext s pos _
                · have e := HTS.out
                  have e2 : (t.extract (Utf8.decode s pos).2 t.size).size = t.size - (Utf8.decode s pos).2 := by simp
                  omega
              case measure =>
                have e2 : (t.extract (Utf8.decode s pos).2 t.size).size = t.size - (Utf8.decode s pos).2 := by simp
                simp; omega
            | false =>
              have HNX : Hid (NumInv s false (pos + (Utf8.decode s pos).2) f (10 * n + d) (many + 1) false) := Lib.hid (by simpa [htst] using hnext)
              clear hnext
              as_aux_lemma =>
              go_wp2_with (first
                | (go_at_call 26; refine (refNext_at s t pos _ hT2 HT.out hp).mono ?_; rintro e w2 ⟨rfl, hB2⟩)
                | (go_at_call 30; refine (hdig _).mono ?_; rintro e w3 ⟨rfl, rfl⟩))
              go_roundw
              case rel =>
                refine ⟨pos + (Utf8.decode s pos).2, f, 10 * n + d, many + 1, false, _, rfl, by go_num, by go_num, rfl, ?_, ?_, by omega, by omega, by omega, fun h => by omega, HNX.out, hB.trans (hB2.mono hB.size)⟩
                · rw [HT.out]; exact ext_ext s pos _
                · have e := HTS.out
                  have e2 : (t.extract (Utf8.decode s pos).2 t.size).size = t.size - (Utf8.decode s pos).2 := by simp
                  omega
              case measure =>
                have e2 : (t.extract (Utf8.decode s pos).2 t.size).size = t.size - (Utf8.decode s pos).2 := by simp
                simp; omega
        · have H2 : Hid (numR s = (0, 12)) := Lib.hid (HI.out.bad hp hf0 hmk)
          have HDV := Lib.hid hdv
          clear hbr hmk hdv HI hf0
          have hdig := fun W => (refDigit_any ((Utf8.decode s pos).1 : Int) W)
          rw [HDV.out] at hdig
          rcases Bool.eq_false_or_eq_true (badB t) with hbt | hbt
          · as_aux_lemma =>
              go_wp2_with (first
                | (go_at_call 26; refine (refNext_at s t pos _ hT2 HT.out hp).mono ?_; rintro e w2 ⟨rfl, hB2⟩)
                | (go_at_call 30; refine (hdig _).mono ?_; rintro e w3 ⟨rfl, rfl⟩))
              go_ret2
              rw [H2.out]
              exact ⟨rfl, hB.trans (hB2.mono hB.size)⟩
          · as_aux_lemma =>
              go_wp2_with (first
                | (go_at_call 26; refine (refNext_at s t pos _ hT2 HT.out hp).mono ?_; rintro e w2 ⟨rfl, hB2⟩)
                | (go_at_call 30; refine (hdig _).mono ?_; rintro e w3 ⟨rfl, rfl⟩))
              go_ret2
              rw [H2.out]
              exact ⟨rfl, hB.trans (hB2.mono hB.size)⟩
      · have hpt : t.size = 0 := by omega
        have HO := Lib.hid (HI.out.out hp)
        clear hts HI HT HTS hf0
        by_cases h1 : many < 1
        · have d1 : decide ((many : Int) < 1) = true := by simp; omega
          have H2 : Hid (numR s = (0, 12)) := Lib.hid (by rw [HO.out, if_pos (show many < 1 ∨ 20 < many by omega)])
          as_aux_lemma =>
            go_wp2
            go_ret2
            rw [H2.out]
            exact ⟨rfl, hB⟩
        · have d1 : decide ((many : Int) < 1) = false := by simp; omega
          by_cases h20 : 20 < many
          · have d2 : decide (20 < (many : Int)) = true := by simp; omega
            have H2 : Hid (numR s = (0, 12)) := Lib.hid (by rw [HO.out, if_pos (show many < 1 ∨ 20 < many by omega)])
            as_aux_lemma =>
              go_wp2
              go_ret2
              rw [H2.out]
              exact ⟨rfl, hB⟩
          · have d2 : decide (20 < (many : Int)) = false := by simp; omega
            cases over with
            | true =>
              have H2 : Hid (numR s = (0, 20)) := Lib.hid (by rw [HO.out, if_neg (show ¬ (many < 1 ∨ 20 < many) by omega)]; rfl)
              as_aux_lemma =>
                go_wp2
                go_ret2
                rw [H2.out]
                exact ⟨rfl, hB⟩
            | false =>
              have H2 : Hid (numR s = ((n : Int), 0)) := Lib.hid (by rw [HO.out, if_neg (show ¬ (many < 1 ∨ 20 < many) by omega)]; rfl)
              as_aux_lemma =>
                go_wp2
                go_ret2
                rw [H2.out]
                exact ⟨rfl, hB⟩

end Go.Proofs.YtbdiphffdmakoaaDoor
