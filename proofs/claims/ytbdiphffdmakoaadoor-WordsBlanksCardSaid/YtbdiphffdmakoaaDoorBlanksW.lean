/- WordsBlanks answers true at every row of texts and every row of numbers, where the library's tables are as their initialisers lay them. -/
import Derived.Test.YtbdiphffdmakoaaDoorBlanksP
import Derived.Test.YtbdiphffdmakoaaDoorBackW
import Derived.Test.YtbdiphffdmakoaaDoorBadW
namespace Go.Proofs.YtbdiphffdmakoaaDoor
open Go Go.RowKit Go.MapKept Go.Shelf

/-- A row of ints in memory. -/
def IntsAt (w : World) (bk o : Nat) (zs : List Int) : Prop := ∀ (j : Nat) (z : Int), zs[j]? = some z → w.cell? ⟨bk, o + j, none⟩ = some (.int .i64 z)

theorem IntsAt.below {w w' : World} {bk o : Nat} {xs : List Int} (h : IntsAt w bk o xs) (hb : Below w.heap.size w w') : IntsAt w' bk o xs := fun j x hj =>
  (hb.cell (World.block_lt_of_cell? _ _ (h j x hj))).trans (h j x hj)

def BlanksAt (w : World) (B : Nat) : Prop := ∀ j, j < 5 → w.cell? ⟨B, j, none⟩ = some (.string (blankS j))

theorem BlanksAt.below {w w' : World} {B : Nat} (h : BlanksAt w B) (hb : Below w.heap.size w w') : BlanksAt w' B := fun j hj =>
  (hb.cell (World.block_lt_of_cell? _ _ (h j hj))).trans (h j hj)

theorem blanks_new (W : World) (t : TypeId) : BlanksAt (W.alloc (.cells #[.string ⟨#[32]⟩, .string ⟨#[9]⟩, .string ⟨#[10]⟩, .string ⟨#[194, 160]⟩, .string ⟨#[227, 128, 128]⟩] t)) W.heap.size := by
  intro j hj
  have hn := (heap_alloc W (.cells #[.string ⟨#[32]⟩, .string ⟨#[9]⟩, .string ⟨#[10]⟩, .string ⟨#[194, 160]⟩, .string ⟨#[227, 128, 128]⟩] t)).1
  simp only [World.cell?, hn]
  match j, hj with
  | 0, _ => rfl
  | 1, _ => rfl
  | 2, _ => rfl
  | 3, _ => rfl
  | 4, _ => rfl

/-- What is known of the row of words and blanks that makes the text. -/
structure Row (toks : List Tok) (t : ByteArray) (xs : List ByteArray) (i : Nat) : Prop where
  text : t = toksText toks
  fine : ∀ u ∈ toks, u.Fine
  apart : Apart toks
  words : (toksWords 0 toks).map (·.2) = xs.take i

theorem Row.sp {toks : List Tok} {t : ByteArray} {xs : List ByteArray} {i : Nat} (h : Row toks t xs i) (j : Nat) : Row (toks ++ [.sp (blankS j)]) (t ++ blankS j) xs i where
  text := by rw [toksText_snoc, ← h.text]; rfl
  fine := fun u hu => by
    rcases List.mem_append.1 hu with hu | hu
    · exact h.fine u hu
    · obtain rfl : u = .sp (blankS j) := by simpa using hu
      exact blankS_fine j
  apart := apart_snoc_sp _ _ h.apart
  words := by rw [toksWords_snoc_sp]; exact h.words

theorem Row.wd {toks : List Tok} {t : ByteArray} {xs : List ByteArray} {i : Nat} (h : Row toks t xs i) (he : EndSp toks) (x : ByteArray) (hx : xs[i]? = some x) (hw : IsWord x) : Row (toks ++ [.wd x]) (t ++ x) xs (i + 1) where
  text := by rw [toksText_snoc, ← h.text]; rfl
  fine := fun u hu => by
    rcases List.mem_append.1 hu with hu | hu
    · exact h.fine u hu
    · obtain rfl : u = .wd x := by simpa using hu
      exact hw
  apart := apart_snoc_wd _ _ h.apart he
  words := by
    have hi := (List.getElem?_eq_some_iff.1 hx).1
    have hxe : xs[i] = x := (List.getElem?_eq_some_iff.1 hx).2
    rw [toksWords_snoc_wd _ _ _ h.fine, List.map_append, h.words, List.take_succ_eq_append_getElem hi, hxe]
    rfl

set_option maxRecDepth 100000 in
set_option maxHeartbeats 1000000 in
theorem blanks_long (p q : Option Addr) (n c m d : Nat) (w : World) (hn : 10 < n ∨ 40 < m) (hn2 : n ≤ 9223372036854775807) (hm2 : m ≤ 9223372036854775807) (hT : Tabs w) :
    Calls Tryd.prog 7 #[.slice p n c, .slice q m d] w fun e w' => e = .returned (.bool true) ∧ Below w.heap.size w w' := by
  by_cases h1 : 10 < n
  · have d1 : decide (10 < (n : Int)) = true := by simp; omega
    go_enter Tryd.func7, Tryd.ntmps7
    go_wp2_with (go_at_call 8; refine (wakes_any _ hT).mono ?_; rintro e w2 ⟨rfl, hB2⟩)
    go_ret
    exact ⟨rfl, hB2⟩
  · have d1 : decide (10 < (n : Int)) = false := by simp; omega
    have d2 : decide (40 < (m : Int)) = true := by simp; omega
    go_enter Tryd.func7, Tryd.ntmps7
    go_wp2_with (go_at_call 8; refine (wakes_any _ hT).mono ?_; rintro e w2 ⟨rfl, hB2⟩)
    go_ret
    exact ⟨rfl, hB2⟩

/-- The outer loop's relation. -/
def BlRel (xs : List ByteArray) (W0 : World) (Bb : Nat) (v6 v7 v8 v9 : Value) (wr : World) : Prop :=
  ∃ (i kk : Nat) (toks : List Tok) (t : ByteArray), v6 = .string t ∧ v7 = .int .i64 kk ∧ v9 = .int .i64 i ∧ i ≤ xs.length + 1 ∧ kk ≤ 3 * i ∧ t.size ≤ 60 * i ∧ Row toks t xs i ∧
    wr.ownsRow W0.heap.size 3 1 v8 (toksWords 0 toks).length ((toksWords 0 toks).map fun x => Value.int .i64 x.1) ∧ Below W0.heap.size W0 wr

/-- The inner loop's relation. -/
def BnRel (xs : List ByteArray) (toks : List Tok) (t : ByteArray) (i kk : Nat) (v6 v7 v10 : Value) : Prop :=
  ∃ (n : Nat) (toks' : List Tok) (t' : ByteArray), v6 = .string t' ∧ v7 = .int .i64 ((kk + n : Nat) : Int) ∧ v10 = .int .i64 n ∧ n ≤ 1 + i % 3 ∧ t'.size ≤ t.size + 3 * n ∧ Row toks' t' xs i ∧ toksWords 0 toks' = toksWords 0 toks ∧ (0 < n → EndSp toks')

theorem row_some {W : World} {B : Nat} {e : TypeId} {z : Nat} {p : Option Addr} {n c : Nat} {xs : List Value} (h : W.ownsRow B e z (.slice p n c) n xs) (hn : 0 < n) : ∃ g, p = some ⟨g, 0, none⟩ := by
  rcases h.2 with ⟨_, h0⟩ | ⟨g, cap, cur, hv, _⟩
  · omega
  · simp at hv
    exact ⟨g, hv.1⟩

theorem info3 : (Tryd.prog.info? 3).map (fun i => (i.zero, i.size, i.bytes)) = some (some (.int .i64 0), 1, 8) := by kernel_rfl

set_option maxRecDepth 100000 in
set_option maxHeartbeats 4000000 in
theorem blanks_walk (p q : Option Addr) (bk o c bq oq d : Nat) (xs : List ByteArray) (zs : List Int) (w : World) (hp : 0 < xs.length → p = some ⟨bk, o, none⟩) (hq : 0 < zs.length → q = some ⟨bq, oq, none⟩)
    (hx : TextsAt w bk o xs) (hz : IntsAt w bq oq zs) (hxz : ∀ x ∈ xs, x.size ≤ 9223372036854775807) (hn : xs.length ≤ 10) (hm : zs.length ≤ 40) (hT : Tabs w) :
    Calls Tryd.prog 7 #[.slice p xs.length c, .slice q zs.length d] w fun e w' => e = .returned (.bool true) ∧ Below w.heap.size w w' := by
  have d1 : decide (10 < (xs.length : Int)) = false := by simp; omega
  have d2 : decide (40 < (zs.length : Int)) = false := by simp; omega
  have hbl := blanks_new w 46
  have hW0 : Below w.heap.size w (w.alloc (.cells #[.string ⟨#[32]⟩, .string ⟨#[9]⟩, .string ⟨#[10]⟩, .string ⟨#[194, 160]⟩, .string ⟨#[227, 128, 128]⟩] 46)) := (Below.refl _ _).alloc (Nat.le_refl _) _
  go_enter Tryd.func7, Tryd.ntmps7
  go_wp2
  clear d1 d2
  obtain ⟨W0, hW0e⟩ : ∃ W0, w.alloc (.cells #[.string ⟨#[32]⟩, .string ⟨#[9]⟩, .string ⟨#[10]⟩, .string ⟨#[194, 160]⟩, .string ⟨#[227, 128, 128]⟩] 46) = W0 := ⟨_, rfl⟩
  rw [hW0e] at hbl hW0 ⊢
  clear hW0e
  have hstart : BlRel xs W0 w.heap.size (.string ⟨#[]⟩) (.int .i64 0) (.slice none 0 0) (.int .i64 0) W0 :=
    ⟨0, 0, [], ⟨#[]⟩, rfl, rfl, rfl, by omega, by omega, by decide, ⟨rfl, fun u hu => (by cases hu), trivial, rfl⟩, World.ownsRow_nil _ _ _ _, Below.refl _ _⟩
  go_loopw [6, 7, 8, 9] (fun v6 v7 v8 v9 wr => BlRel xs W0 w.heap.size v6 v7 v8 v9 wr) (fun _ _ _ v9 _ => xs.length + 1 - (intOf v9).toNat)
  case atStart => exact hstart
  case round =>
    clear hstart
    obtain ⟨i, kk, toks, t, rfl, rfl, rfl, hi, hkk, hts, hrow, hown, hB⟩ := hrel
    have hblr := hbl.below hB
    have hBw := hW0.trans (hB.mono hW0.size)
    have hxr := hx.below hBw
    have hzr := hz.below hBw
    have hTr := hT.below hBw
    by_cases hle : i ≤ xs.length
    · have hrem : (i : Int).tmod 3 = ((i % 3 : Nat) : Int) := by rw [Int.tmod_eq_emod_of_nonneg (by omega)]; rfl
      clear hrem
      have hi3 : 0 ≤ (i : Int) % 3 ∧ (i : Int) % 3 ≤ 2 := by omega
      go_wp2
      obtain ⟨wo, rfl⟩ : ∃ wo : World, wo = wr := ⟨_, rfl⟩
      go_loop [6, 7, 10, 11] (fun v6 v7 v10 _ => BnRel xs toks t i kk v6 v7 v10) (fun _ _ v10 _ => 1 + i % 3 - (intOf v10).toNat)
      case atStart => exact ⟨0, toks, t, rfl, rfl, rfl, by omega, by omega, hrow, rfl, fun h => by omega⟩
      case round =>
        obtain ⟨n, toks', t', rfl, rfl, rfl, hn3, hts', hrow', hwds, hend⟩ := hrel
        by_cases hlt : (n : Int) < 1 + (i : Int) % 3
        · by_cases hkz : kk + n < zs.length
          · obtain rfl := hq (by omega)
            have hzk : zs[kk + n]? = some (zs.getD (kk + n) 0) := by simp [List.getD, hkz]
            have hcz := hzr (kk + n) _ hzk
            obtain ⟨z, hze⟩ : ∃ z, zs.getD (kk + n) 0 = z := ⟨_, rfl⟩
            rw [hze] at hcz
            clear hze hzk
            have hr := idx_range z 5 (by omega) (by omega)
            have hj : ∃ j : Nat, j < 5 ∧ (wrap64 (z.tmod 5 + 5)).tmod 5 = (j : Int) := ⟨((wrap64 (z.tmod 5 + 5)).tmod 5).toNat, by omega, by omega⟩
            clear hr
            obtain ⟨j, hj, hjz⟩ := hj
            have hb0 := hblr j hj
            have hrow2 := hrow'.sp j
            have hsz := blankS_size j
            go_wp2
            go_round
            case rel => exact ⟨n + 1, toks' ++ [.sp (blankS j)], _, rfl, by go_num, by go_num, by omega, by rw [app_size]; omega, hrow2, by rw [toksWords_snoc_sp]; exact hwds, fun _ => endSp_snoc _ _⟩
            case measure => simp [intOf]; omega
          · have hb0 := hblr 0 (by decide)
            have hrow2 := hrow'.sp 0
            have hsz := blankS_size 0
            go_wp2
            go_round
            case rel => exact ⟨n + 1, toks' ++ [.sp (blankS 0)], _, rfl, by go_num, by go_num, by omega, by rw [app_size]; omega, hrow2, by rw [toksWords_snoc_sp]; exact hwds, fun _ => endSp_snoc _ _⟩
            case measure => simp [intOf]; omega
        · have hes := hend (by omega)
          have hne : n = 1 + i % 3 := by omega
          have hkn : kk + n ≤ 3 * (i + 1) := by omega
          have HW := Lib.hid hwds
          clear hend hwds hne
          by_cases hil : i < xs.length
          · obtain rfl := hp (by omega)
            have hcell := hxr.at i hil
            have hxi := getD_get xs i hil
            have hzk := hxz _ (List.mem_of_getElem? hxi)
            obtain ⟨x, hxe⟩ : ∃ x, xs.getD i ⟨#[]⟩ = x := ⟨_, rfl⟩
            rw [hxe] at hcell hzk hxi
            have HXI := Lib.hid hxi
            clear hxe hxi
            by_cases h50 : 50 < x.size
            · have d1 : decide (50 < (x.size : Int)) = true := by simp; omega
              go_wp2_with (go_at_call 8; refine (wakes_any _ hTr).mono ?_; rintro e w2 ⟨rfl, hB2⟩)
              go_ret
              exact ⟨rfl, hBw.trans (hB2.mono hBw.size)⟩
            · have d1 : decide (50 < (x.size : Int)) = false := by simp; omega
              cases hst : standsR x with
              | false =>
                have HST := Lib.hid hst
                clear hst
                go_wp2_with fail
                refine (stands_no x _ (by omega) hTr HST.out).mono ?_
                rintro e w2 ⟨rfl, hB2⟩
                have hB3 := hBw.trans (hB2.mono hBw.size)
                have hT3 := hT.below hB3
                go_wp2_with (go_at_call 8; refine (wakes_any _ hT3).mono ?_; rintro e w4 ⟨rfl, hB4⟩)
                go_ret
                exact ⟨rfl, hB3.trans (hB4.mono hB3.size)⟩
              | true =>
                have HR := Lib.hid (hrow'.wd hes x HXI.out (word_of_stands x hst))
                have HF := Lib.hid hrow'
                have HST := Lib.hid hst
                clear hst
                go_wp2_with fail
                refine (stands_yes x _ (by omega) hTr HST.out).mono ?_
                rintro e w2 ⟨rfl, hB2⟩
                have hx2 := hxr.below hB2
                have hcell2 := (hB2.cell (World.block_lt_of_cell? _ _ hcell)).trans hcell
                have hown2 := ownsRow_below hown hB2
                have hB02 := hB.trans (hB2.mono hB.size)
                clear hcell hown hx2
                go_wp2_with fail
                refine (count_below' t' _ (by unfold maxLen; omega)).mono ?_
                rintro e w3 ⟨rfl, hB3⟩
                have hcell3 := (hB3.cell (World.block_lt_of_cell? _ _ hcell2)).trans hcell2
                have hown3 := ownsRow_below hown2 hB3
                have hB03 := hB02.trans (hB3.mono hB02.size)
                have hsz3 := hB03.size
                clear hcell2 hown2 hB02 hB2 hB3
                obtain ⟨i0, hi0, hz0, hz1, hz2⟩ := info_parts info3
                have hwl : (toksWords 0 toks).length ≤ 10 := by
                  have := congrArg List.length hrow.words
                  rw [List.length_map, List.length_take] at this
                  omega
                have hx0 := hx.below hW0
                go_wp2_with (at_builtin; refine wpList_append_own _ rfl _ _ 45 rfl W0.heap.size 3 i0 (.int .i64 0) 1 8 Tryd.underlying45 hi0 hz0 hz1 hz2 rfl (by decide) _ _ _ rfl (hown3.alloc _) ⟨w3.heap.size, 0, none⟩ 1 1 [.int .i64 (runes t').length] rfl rfl (cell_one_new _ _ _) (by simp [Value.oneCell']) (by unfold maxLen; omega) (by omega) (by simp; omega) ?_; intro v' w5 hown5 hgrow _; have hB05 : Below W0.heap.size W0 w5 := (hB03.alloc hB03.size _).grown hgrow (by simp; omega) (fun r e => (hown3.lt r e).1); have hcell5 := hx0.below hB05 i x HXI.out)
                go_roundw
                case rel =>
                  refine ⟨i + 1, kk + n, toks' ++ [.wd x], _, rfl, by go_num, by go_num, by omega, hkn, by rw [app_size]; omega, HR.out, ?_, hB05⟩
                  rw [toksWords_snoc_wd _ _ _ HF.out.fine, HW.out, ← HF.out.text, Nat.zero_add, List.length_append, List.map_append]
                  exact hown5
                case measure => simp [intOf]; omega
          · obtain rfl : i = xs.length := by omega
            go_wp2
            go_roundw
            case rel =>
              refine ⟨xs.length + 1, kk + n, toks', t', rfl, by go_num, by go_num, by omega, hkn, by omega, ⟨hrow'.text, hrow'.fine, hrow'.apart, ?_⟩, ?_, hB⟩
              · rw [hrow'.words, List.take_of_length_le (by omega), List.take_of_length_le (by omega)]
              · rw [HW.out]; exact hown
            case measure => simp [intOf]
    · obtain rfl : i = xs.length + 1 := by omega
      have hspec := toks_spec toks hrow.fine hrow.apart
      rw [← hrow.text] at hspec
      have hlen : (toksWords 0 toks).length = xs.length := by
        have := congrArg List.length hrow.words
        rw [List.length_map, List.length_take] at this
        omega
      go_wp2_with fail
      refine (split_any t _ (by omega)).mono ?_
      rintro e w3 ⟨v, rfl, hownw, hB3⟩
      rw [hspec] at hownw ⊢
      simp only [] at hownw
      rw [hlen] at hownw hown
      obtain ⟨pv, cv, rfl⟩ := row_slice hownw
      have hownp := ownsRow_below hown hB3
      have hB03 := hBw.trans (hB3.mono hBw.size)
      have hx3 := hx.below hB03
      have HL := Lib.hid hlen
      clear hspec hown hB3 hxr hzr hTr hblr hlen
      go_wp2_with fail
      refine (count_below' t _ (by unfold maxLen; omega)).mono ?_
      rintro e w4 ⟨rfl, hB4⟩
      have hB04 := hB03.trans (hB4.mono hB03.size)
      have hx4 := hx.below hB04
      have hownw4 := ownsRow_below hownw hB4
      have hownp4 := ownsRow_below hownp hB4
      clear hB03 hB4 hx3 hownw hownp
      go_wp2_with fail
      go_loopw [15] (fun v15 wr => ∃ k : Nat, k ≤ xs.length ∧ v15 = .int .i64 k ∧ Below w4.heap.size w4 wr) (fun v15 _ => xs.length - (intOf v15).toNat)
      case atStart => exact ⟨0, by omega, rfl, Below.refl _ _⟩
      case round =>
        obtain ⟨k, hk, rfl, hBr⟩ := hrel
        have hB5 := hB04.trans (hBr.mono hB04.size)
        by_cases hlt : k < xs.length
        · obtain rfl := hp (by omega)
          obtain ⟨g, rfl⟩ := row_some hownw4 (by omega)
          obtain ⟨pp, cp, rfl⟩ := row_slice hownp4
          obtain ⟨gp, rfl⟩ := row_some hownp4 (by omega)
          have hxk := getD_get xs k hlt
          have hcx := (hx4.below hBr).at k hlt
          obtain ⟨x, hxe⟩ : ∃ x, xs.getD k ⟨#[]⟩ = x := ⟨_, rfl⟩
          rw [hxe] at hcx hxk
          obtain ⟨a, ha⟩ : ∃ a, (toksWords 0 toks)[k]? = some (a, x) := by
            have hw := congrArg (·[k]?) hrow.words
            simp only [List.getElem?_map] at hw
            rw [List.getElem?_take_of_lt (by omega), hxk] at hw
            cases hh : (toksWords 0 toks)[k]? with
            | none => rw [hh] at hw; cases hw
            | some y =>
              rw [hh] at hw
              obtain ⟨y1, y2⟩ := y
              simp at hw
              exact ⟨y1, by rw [hw]⟩
          have hfa := flat_at _ k _ ha
          have c0 := ((ownsRow_below hownw4 hBr).cellAt (k * 2) (by omega)).trans hfa.1
          have c1 := ((ownsRow_below hownw4 hBr).cellAt (k * 2 + 1) (by omega)).trans hfa.2
          have c2 : wr.cell? ⟨gp, k, none⟩ = some (.int .i64 a) := by
            rw [(ownsRow_below hownp4 hBr).cellAt k (by omega), List.getElem?_map, ha]
            rfl
          clear hfa ha hxe hxk
          go_wp2
          go_quiet (fail)
          go_wp2_with fail
          go_roundw
          case rel =>
            have hBd : Below w4.heap.size w4 (wr.drewN nq) := ⟨hBr.os, hBr.tape, hBr.output, hBr.size, hBr.block⟩
            exact ⟨k + 1, by omega, by go_num, hBd⟩
          case measure => simp [intOf]; omega
        · obtain rfl : k = xs.length := by omega
          have hT5 := hT.below hB5
          go_wp2_with (go_at_call 8; refine (wakes_any _ hT5).mono ?_; rintro e w6 ⟨rfl, hB6⟩)
          go_ret
          exact ⟨rfl, hB5.trans (hB6.mono hB5.size)⟩

end Go.Proofs.YtbdiphffdmakoaaDoor
