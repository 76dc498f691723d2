/- The contract of Split of package words, for every text of at most 1000000000 bytes. -/
import Derived.Test.YtbdiphffdmakoaaDoorW4
namespace Go.Proofs.YtbdiphffdmakoaaDoor
open Go Go.RowKit Go.MapKept Go.Shelf

attribute [local go_sem] Oper.semAt_some

/-- The place of the first rune that may not stand. -/
def badF : List (Nat × Nat × Nat) → Nat → Option Nat
  | [], _ => none
  | (_, c, _) :: r, n => if kindR c = 2 then some n else badF r (n + 1)

def splitOut (s : ByteArray) : Option Nat → List (Nat × ByteArray) × Nat × Int
  | some i => ([], i, 10)
  | none => (wordsR s, (runes s).length, 0)

/-- What Split answers. -/
def splitR (s : ByteArray) : List (Nat × ByteArray) × Nat × Int := splitOut s (badF (runes s) 0)

def wordC (x : Nat × ByteArray) : List Value := [.int .i64 x.1, .string x.2]

theorem kinds_opaque (w : World) :
    Calls Tryd.prog 23 #[] w fun e w' => e = .returned (.map (some w.heap.size)) ∧ w'.heap[w.heap.size]? = some (.map kindEs 7) ∧ w'.heap.size = w.heap.size + 1 ∧ Below w.heap.size w w' :=
  (runeKinds_any w).mono fun _ _ ⟨he, hw⟩ => by subst hw; exact ⟨he, (heap_alloc w _).1, by simp, (Below.refl _ _).alloc (Nat.le_refl _) _⟩

theorem wordsOf_opaque (s : ByteArray) (bm : Nat) (w : World) :
    Calls Tryd.prog 25 #[.string s, .map (some bm)] w fun e w' => e = .returned (.func (.func 33) #[] #[.pointer (some ⟨w.heap.size, 0, none⟩), .pointer (some ⟨w.heap.size + 1, 0, none⟩)]) ∧
      Boxed w' w.heap.size 9 (.string s) ∧ Boxed w' (w.heap.size + 1) 48 (.map (some bm)) ∧ w'.heap.size = w.heap.size + 2 ∧ Below w.heap.size w w' :=
  (wordsOf_any s bm w).mono fun _ _ ⟨he, hw⟩ => by
    subst hw
    have h2 := Boxed.new (w.alloc (.cells #[.string s] 9)) 48 (.map (some bm))
    rw [World.size_alloc] at h2
    exact ⟨he, (Boxed.new w 9 _).alloc _, h2, by simp, ((Below.refl _ _).alloc (Nat.le_refl _) _).alloc (by simp) _⟩

theorem kind_two {c : Int} (h : kindR c = 2) : ((kindR c : Int) == 2) = true := by rw [h]; rfl
theorem kind_two_not {c : Int} (h : ¬ kindR c = 2) : ((kindR c : Int) == 2) = false := by simp; omega

theorem kp_b (n : Nat) (W : World) (l : Nat) (o o' : Obj) (_ : n ≤ l) (hl : W.heap[l]? = some o) (hc : o.isCells = false) (hw : o.isWalk = false) : Kp W (W.putObj l o') := by
  refine Kp.grown (grownBy_putObj' W l o') fun r e => ?_
  cases e
  refine ⟨o, hl, ?_⟩
  cases o <;> simp_all [keepO, Obj.isCells, Obj.isWalk]

theorem info38 : (Tryd.prog.info? 38).map (fun i => (i.zero, i.size, i.bytes)) = some (some (.agg #[.int .i64 0, .string ⟨#[]⟩]), 2, 24) := by kernel_rfl

/-- Two cells of a word, in whatever block. -/
def WordAt (W : World) (B : Nat) (x : Nat × ByteArray) : Prop := W.heap[B]? = some (.cells #[.int .i64 x.1, .string x.2] 38 (0, 0))

theorem wordAt_own (B : Nat) (x : Nat × ByteArray) (X Y : World) (row : Option Nat) (h : WordAt X B x) (hg : X.grownBy Y row) (hr : ∀ r, row = some r → ∃ o : Obj, X.heap[r]? = some o ∧ o.isCells = false) : WordAt Y B x := by
  have hlt := (Array.getElem?_eq_some_iff.1 h).1
  refine (hg.block B hlt fun e => ?_).trans h
  obtain ⟨o, h1, h2⟩ := hr B e.symm
  rw [show X.heap[B]? = _ from h] at h1
  cases h1
  cases h2

theorem WordAt.cell0 {W : World} {B : Nat} {x : Nat × ByteArray} (h : WordAt W B x) : W.cell? ⟨B, 0, none⟩ = some (.int .i64 x.1) := by
  simp only [World.cell?, show W.heap[B]? = _ from h]; rfl
theorem WordAt.cell1 {W : World} {B : Nat} {x : Nat × ByteArray} (h : WordAt W B x) : W.cell? ⟨B, 1, none⟩ = some (.string x.2) := by
  simp only [World.cell?, show W.heap[B]? = _ from h]; rfl

theorem cells_two_new (W : World) (u v : Value) (t : TypeId) : ∀ (j : Nat) (x : Value), [u, v][j]? = some x → (W.alloc (.cells #[u, v] t)).cell? ((⟨W.heap.size, 0, none⟩ : Addr).add j) = some x := by
  intro j x hj
  have hn := (heap_alloc W (.cells #[u, v] t)).1
  have hc : ∀ k, (W.alloc (.cells #[u, v] t)).cell? ⟨W.heap.size, k, none⟩ = #[u, v][k]? := fun k => by simp only [World.cell?, hn]; rfl
  match j, hj with
  | 0, hj => exact (hc 0).trans (by simpa using hj)
  | 1, hj => exact (hc 1).trans (by simpa using hj)
  | j + 2, hj => simp at hj

theorem wordsF_len (s : ByteArray) : ∀ (l : List (Nat × Nat × Nat)) (a b n : Nat) (inside : Bool), (wordsF s l a b n inside).length ≤ l.length + (if inside then 1 else 0)
  | [], a, b, n, true => by simp [wordsF]
  | [], a, b, n, false => by simp [wordsF]
  | (p, c, k) :: r, a, b, n, true => by
    simp only [wordsF, if_true]
    split
    · have := wordsF_len s r a b (n + 1) false; simp at this ⊢; omega
    · have := wordsF_len s r a b (n + 1) true; simp at this ⊢; omega
  | (p, c, k) :: r, a, b, n, false => by
    simp only [wordsF]
    split
    · contradiction
    · split
      · have := wordsF_len s r a b (n + 1) false; simp at this ⊢; omega
      · have := wordsF_len s r n p (n + 1) true; simp at this ⊢; omega

theorem wordsR_len (s : ByteArray) : (wordsR s).length ≤ s.size := by
  have h1 := wordsF_len s (runes s) 0 0 0 false
  have h2 := runes_len s
  unfold wordsR
  simp at h1
  omega

/-- A slice that owns words lies in a block of words. -/
theorem row_keep {W : World} {B : Nat} {v : Value} {n : Nat} {xs : List Value} (h : W.ownsRow B 38 2 v n xs) : ∀ r, v.ownBlock = some r → ∃ o : Obj, W.heap[r]? = some o ∧ keepO o = false := by
  intro r hr
  rcases h.2 with ⟨rfl, _⟩ | ⟨g, cap, cur, rfl, _, hgg, _⟩
  · simp [Value.ownBlock] at hr
  · simp [Value.ownBlock] at hr
    subst hr
    exact ⟨_, hgg, rfl⟩

theorem row_slice {W : World} {B : Nat} {e : TypeId} {z : Nat} {v : Value} {n : Nat} {xs : List Value} (h : W.ownsRow B e z v n xs) : ∃ p c, v = .slice p n c := by
  rcases h.2 with ⟨rfl, h0⟩ | ⟨g, cap, cur, rfl, _⟩
  · exact ⟨_, _, by rw [h0]⟩
  · exact ⟨_, _, rfl⟩

theorem Kp.setBox {W : World} {B : Nat} {v : Value} (h : Boxed W B 24 v) (u : Value) : Kp W (W.setCell ⟨B, 0, none⟩ u) :=
  Kp.grown (grownBy_setCell' W B u) fun r e => by cases e; exact ⟨_, h, rfl⟩

set_option maxRecDepth 100000 in
set_option maxHeartbeats 2000000 in
theorem split_any (s : ByteArray) (w : World) (hs : s.size ≤ 1000000000) :
    Calls Tryd.prog 9 #[.string s] w fun e w' => ∃ v, e = .returned (.tuple #[v, .int .i64 (splitR s).2.1, .int .i64 (splitR s).2.2]) ∧
      w'.ownsRow w.heap.size 38 2 v (splitR s).1.length ((splitR s).1.flatMap wordC) ∧ Below w.heap.size w w' := by
  refine (callsIn_wide (n := 5)).1 ?_
  refine callsIn_of_wp_marks Tryd.func9 rfl trivial ?_ rfl
  simp only [Tryd.ntmps9, List.size_toArray, List.length_cons, List.length_nil, Nat.reduceAdd, Nat.reduceSub, Array.replicate_succ, Array.replicate_zero, List.push_toArray, List.append_toArray, List.nil_append, List.cons_append]
  gi_wp2_with (refine ⟨trivial, ?_⟩; gi_at_call 23; refine (callsIn_wide.2 (kinds_opaque _)).mono ?_; rintro e W1 ⟨rfl, hm, hsz, hB1⟩; have HM0 := Lib.hid hm; have HS0 := Lib.hid hsz; clear hm hsz)
  have hm := HM0.out
  have hsz := HS0.out
  clear HM0 HS0
  simp only [World.size_alloc] at hm hsz hB1
  have hbox : Boxed W1 w.heap.size 24 (.slice none 0 0) := (hB1.block _ (by simp)).trans (Boxed.new w 24 _)
  have hB : Below w.heap.size w W1 := ((Below.refl _ w).alloc (Nat.le_refl _) _).trans (hB1.mono (by simp))
  clear hB1
  have HM := Lib.hid hm
  have HS := Lib.hid hsz
  clear hm hsz
  gi_loopw [6] (fun v6 wr => ∃ pos b k : Nat, wr = W1.iter s pos ∧ v6 = .int .i64 k ∧ badF (runesF s b pos) k = badF (runes s) 0 ∧ k + (runesF s b pos).length = (runes s).length ∧ s.size ≤ pos + b) (fun _ wr => s.size - wr.iterPos W1.heap.size)
  case atStart => exact ⟨0, s.size, 0, rfl, rfl, rfl, by simp [runes], by omega⟩
  case round =>
    obtain ⟨pos, b, k, rfl, rfl, hf, hc, hb⟩ := hrel
    have HF := Lib.hid hf
    have HC := Lib.hid hc
    clear hf hc
    have hl := runes_len s
    have hbm : (W1.iter s pos).heap[w.heap.size + 1]? = some (.map kindEs 7) := ((heap_alloc W1 _).2 _ (by rw [HS.out]; omega)).trans HM.out
    by_cases hp : pos < s.size
    · have hnx : ∀ ty, (Instr.next (.pointer (some ⟨W1.heap.size, 0, none⟩)) true ty).run Tryd.prog (W1.iter s pos) = _ := fun ty => run_next_any W1 s pos ty hp
      have hwd := width_pos s pos hp
      cases b with
      | zero => omega
      | succ b =>
      have hkk : k + 1 ≤ s.size := by have := HC.out; simp [runesF, hp] at this; omega
      have hbm2 : (W1.iter s (pos + (Utf8.decode s pos).2)).heap[w.heap.size + 1]? = some (.map kindEs 7) := ((heap_alloc W1 _).2 _ (by rw [HS.out]; omega)).trans HM.out
      have HB2 := Lib.hid hbm2
      clear hbm hbm2
      by_cases hk : kindR (Utf8.decode s pos).1 = 2
      · have hk1 := kind_two hk
        have H1 : Hid (splitR s = ([], k, 10)) := Lib.hid (by unfold splitR; rw [← HF.out]; simp [runesF, hp, badF, hk, splitOut])
        clear hk
        have hbx : Boxed (W1.iter s (pos + (Utf8.decode s pos).2)) w.heap.size 24 (.slice none 0 0) := hbox.alloc _
        have c1 := hbx.cell
        have c2 := hbx.frozen
        gi_wp2_with (refine ⟨trivial, ?_⟩; gi_at_call 24; refine (callsIn_wide.2 (kindOf_any _ _ _ HB2.out)).mono ?_; rintro e w' ⟨rfl, rfl⟩)
        have c3 := (hbx.set (.slice none 0 0)).cell
        clear c1 c2
        refine ⟨.tuple #[.slice none 0 0, .int .i64 k, .int .i64 10], by simp [results, Tryd.results9, go_sem, c3], .slice none 0 0, by rw [H1.out], ?_, ?_⟩
        · rw [H1.out]; exact World.ownsRow_nil _ _ _ _
        · exact (hB.alloc hB.size _).setCell (p := ⟨w.heap.size, 0, none⟩) (Nat.le_refl _) _
      · have hk1 := kind_two_not hk
        have H1 : Hid (badF (runesF s b (pos + (Utf8.decode s pos).2)) (k + 1) = badF (runes s) 0) := Lib.hid (by rw [← HF.out]; simp [runesF, hp, badF, hk])
        have H2 : Hid (k + 1 + (runesF s b (pos + (Utf8.decode s pos).2)).length = (runes s).length) := Lib.hid (by rw [← HC.out]; simp [runesF, hp]; omega)
        clear hk
        gi_wp2_with (refine ⟨trivial, ?_⟩; gi_at_call 24; refine (callsIn_wide.2 (kindOf_any _ _ _ HB2.out)).mono ?_; rintro e w' ⟨rfl, rfl⟩)
        go_roundw
        case rel => exact ⟨_, b, k + 1, rfl, by go_num, H1.out, H2.out, by omega⟩
        case measure => simp; omega
    · have hnx : ∀ ty, (Instr.next (.pointer (some ⟨W1.heap.size, 0, none⟩)) true ty).run Tryd.prog (W1.iter s pos) = _ := fun ty => run_next_end W1 s pos ty hp
      have H1 : Hid (splitR s = (wordsR s, k, 0)) := Lib.hid (by
        have hk : k = (runes s).length := by rw [← HC.out, runesF_end s b pos hp]; simp
        unfold splitR; rw [← HF.out, runesF_end s b pos hp]; simp [badF, splitOut, hk])
      have HBM := Lib.hid hbm
      clear hbm
      gi_wp2_with (refine ⟨trivial, ?_⟩; gi_at_call 25; refine (callsIn_wide.2 (wordsOf_opaque _ _ _)).mono ?_; rintro e W3 ⟨rfl, hT, hK, hs3, hB3⟩; have HS3 := Lib.hid hs3; clear hs3)
      have hsz1 := HS.out
      have hsz3 := HS3.out
      have hk2 : (W1.iter s pos).heap.size = W1.heap.size + 1 := by simp [World.iter]
      have hbox2 : Boxed (W1.iter s pos) w.heap.size 24 (.slice none 0 0) := hbox.alloc _
      have hbox3 : Boxed W3 w.heap.size 24 (.slice none 0 0) := (hB3.block _ hbox2.lt).trans hbox2
      have hm3 : W3.heap[w.heap.size + 1]? = some (.map kindEs 7) := (hB3.block _ (by omega)).trans HBM.out
      have hBW : Below w.heap.size w W3 := (hB.alloc hB.size _).trans (hB3.mono (by omega))
      obtain ⟨K2, hK2⟩ : ∃ K2, (W1.iter s pos).heap.size = K2 := ⟨_, rfl⟩
      rw [hK2] at hT hK hsz3 hk2 ⊢
      clear HS3 hB3 hbox2 hK2 hnx HBM HS HM hbox hB HC HF
      have hle1 : w.heap.size + 2 ≤ W1.heap.size := by omega
      have hle2 : W1.heap.size < K2 := by omega
      have hle3 : K2 + 2 ≤ W3.heap.size := by omega
      clear hsz1 hsz3 hk2
      obtain ⟨i0, hi, hz0, hz1, hz2⟩ := info_parts info38
      have hwl := wordsR_len s
      refine wpIn_rangeFunc_ownH rfl (by omega) (gf := 33) (lb := #[.pointer (some ⟨K2, 0, none⟩), .pointer (some ⟨K2 + 1, 0, none⟩)]) rfl trivial (enters_of Tryd.func33 (by kernel_rfl) rfl)
        (words_stops (5 - 1) (by omega) K2 (K2 + 1) (w.heap.size + 1) s hs W3 hT hK hm3) Kp.trans (kp_b _) (Below.refl _ _) (fun _ => rfl)
        (fun (pre : List (Nat × ByteArray)) W => (∃ v, Boxed W w.heap.size 24 v ∧ W.ownsRow w.heap.size 38 2 v pre.length (pre.flatMap wordC) ∧ True) ∧ Below w.heap.size w W)
        (fun _ _ _ => False)
        (OwnFrom.and (Own.from (holdsRow_own w.heap.size w.heap.size 24 38 2 (fun (pre : List (Nat × ByteArray)) => pre.length) (fun pre => pre.flatMap wordC) (fun _ _ => True)) _) (ownFrom_below (Nat.le_refl _) (by omega)))
        (fun _ _ _ _ _ hs _ _ => hs)
        ⟨⟨_, hbox3, World.ownsRow_nil _ _ _ _, trivial⟩, hBW⟩
        (fun x a' W => ∃ Bx, w.heap.size < Bx ∧ WordAt W Bx x ∧ a' = { tmps := #[.string s, undef, .pointer (some ⟨w.heap.size, 0, none⟩), u3, u4, .map (some (w.heap.size + 1)), .int .i64 k, undef, u8, .pointer (some ⟨Bx, 0, none⟩), .map (some (w.heap.size + 1)), .string s, .pointer (some ⟨W1.heap.size, 0, none⟩), .tuple #[.bool false], .bool false, u15, u16, u17, u18, u19, u20, u21, u22, .string s, .map (some (w.heap.size + 1)), .func (.func 33) #[] #[.pointer (some ⟨K2, 0, none⟩), .pointer (some ⟨K2 + 1, 0, none⟩)], wordV x, undef, undef, undef, undef, undef, undef], defers := [] })
        (fun x a' _ X Y row hs hg hr => by obtain ⟨Bx, h1, h2, h3⟩ := hs; exact ⟨Bx, h1, wordAt_own Bx x X Y row h2 hg (fun r e => (hr r e).2), h3⟩)
        ?assign ?body ?done ?stop
      case assign =>
        rintro l pre x W K ⟨⟨v, hv, hrow, _⟩, hB1⟩ hK
        dsimp only [wordV]
        gi_wp2
        exact hK _ _ ((KeepsOthers.alloc _ _).from _) (Kp.alloc _ _) ⟨⟨v, hv.alloc _, hrow.alloc _, trivial⟩, hB1.alloc hB1.size _⟩ ⟨W.heap.size, hv.lt, (heap_alloc W _).1, rfl⟩
      case body =>
        rintro l pre x a' W hl ⟨r, hr⟩ ⟨⟨v, hv, hrow, _⟩, hB1⟩ ⟨Bx, hBx, hX, rfl⟩ hlt
        have hc := hv.cell
        have x0 := hX.cell0
        have x1 := hX.cell1
        have hsW := hB1.size
        gi_wp2_with (gi_at_builtin; refine wpListIn_append_own _ rfl _ _ 24 rfl w.heap.size 38 i0 (.agg #[.int .i64 0, .string ⟨#[]⟩]) 2 24 Tryd.underlying24 hi hz0 hz1 hz2 rfl (by decide) _ _ _ rfl (hrow.alloc _) ⟨W.heap.size, 0, none⟩ 1 1 [.int .i64 x.1, .string x.2] rfl rfl (cells_two_new _ _ _ _) (by simp [Value.oneCell']) (by unfold maxLen; omega) (by omega) (by simp; omega) ?_; intro v' w1 hown' hgrow _; obtain ⟨g', cap', rfl⟩ := ownsRow_succ hown'; obtain ⟨hv1, hv2, hr2, hk2, hb2⟩ := hv.appended (by decide) hrow hsW (Nat.le_refl _) hown' hgrow; have hc1 := hv1.cell; have hf1 := hv1.frozen)
        exact ⟨hk2.from _, ((Kp.alloc W _).trans (Kp.grown hgrow (row_keep (hrow.alloc _)))).trans (Kp.setBox hv1 _), ⟨⟨_, hv2, by simpa [wordC] using hr2, trivial⟩, hB1.trans hb2⟩⟩
      case done =>
        rintro D ys W hD rfl ⟨⟨v, hv, hrow, _⟩, hB1⟩ hK
        obtain ⟨p', c', rfl⟩ := row_slice hrow
        have hc := hv.cell
        have hf := hv.frozen
        gi_wp2
        have hK' := (KeepsOthers.setCell W ⟨w.heap.size, 0, none⟩ (.slice p' (wordsR s).length c')).same D _ hK rfl
        refine ⟨by simp, .inl ⟨_, _, rfl, run_takeDeferred hK', ?_⟩⟩
        have hv2 := hv.set (.slice p' (wordsR s).length c')
        have hv3 := boxed_own w.heap.size 24 (fun (_ : Unit) => Value.slice p' (wordsR s).length c') () _ _ _ hv2 (grownBy_putObj' _ D (.deferred none)) (fun r e => by cases e; exact ⟨_, hK', rfl⟩)
        have c3 := hv3.cell
        have hr2 : (W.setCell ⟨w.heap.size, 0, none⟩ (.slice p' (wordsR s).length c')).ownsRow w.heap.size 38 2 (.slice p' (wordsR s).length c') (wordsR s).length ((wordsR s).flatMap wordC) :=
          hrow.kept (grownBy_setCell' W w.heap.size _) (.inr (hv.not_row (by decide) hrow).symm)
        refine ⟨.tuple #[.slice p' (wordsR s).length c', .int .i64 k, .int .i64 0], by simp [results, Tryd.results9, go_sem, c3], .slice p' (wordsR s).length c', by rw [H1.out], ?_, ?_⟩
        · rw [H1.out]; exact ownsRow_putObj hr2 _ hK' rfl
        · exact (hB1.setCell (p := ⟨w.heap.size, 0, none⟩) (Nat.le_refl _) _).trans (belowK_b (w := w) (Nat.le_refl _) _ D _ _ (by omega) hK' rfl rfl)
      case stop =>
        rintro D c pre W _ _ h _
        exact h.elim

end Go.Proofs.YtbdiphffdmakoaaDoor
