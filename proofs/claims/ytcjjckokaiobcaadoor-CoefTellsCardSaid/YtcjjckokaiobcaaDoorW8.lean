/- CoefBack. -/
import Derived.Test.YtcjjckokaiobcaaDoorW7
namespace Go.Proofs.YtcjjckokaiobcaaDoor
open Go Go.RowKit
set_option linter.unusedSimpArgs false
set_option linter.unusedVariables false
set_option maxRecDepth 100000

def inJ (o : Op3) : Prop := -9223372036854775808 ≤ o.2.1 ∧ o.2.1 < 9223372036854775808
theorem ng_ng {o : Op3} (h : inJ o) : ngO (ngO o) = o := by
  obtain ⟨k, n, d⟩ := o
  change -9223372036854775808 ≤ n ∧ n < 9223372036854775808 at h
  have e : wi (0 - wi (0 - n)) = n := by
    unfold wi
    simp only [IntKind.wrap_i64]
    omega
  show (k, wi (0 - wi (0 - n)), d) = _
  rw [e]
theorem bk_bk {L : List Op3} (h : ∀ o ∈ L, inJ o) : bkL (bkL L) = L := by
  unfold bkL
  rw [← List.map_reverse, List.reverse_reverse, List.map_map]
  have : ∀ M : List Op3, (∀ o ∈ M, inJ o) → M.map (ngO ∘ ngO) = M := fun M => by
    induction M with
    | nil => intro _; rfl
    | cons x r ih =>
      intro hm
      rw [List.map_cons, ih (fun o ho => hm o (List.mem_cons_of_mem _ ho))]
      show ngO (ngO x) :: r = _
      rw [ng_ng (hm x List.mem_cons_self)]
  exact this L h
theorem bk_at {L : List Op3} {i : Nat} {o : Op3} (h : L[i]? = some o) : (bkL L)[L.length - 1 - i]? = some (ngO o) := by
  have hlt : i < L.length := (List.getElem?_eq_some_iff.1 h).1
  unfold bkL
  rw [List.getElem?_map, List.getElem?_reverse (by omega), show L.length - 1 - (L.length - 1 - i) = i by omega, h]
  rfl
theorem rg_ng {o : Op3} (h : inJ o) (hne : o.2.1 ≠ wi (0 - o.2.1)) : rightB (ngO o) = rightB o := by
  unfold inJ at h
  have e : wi (0 - o.2.1) = -o.2.1 := by
    by_cases hm : o.2.1 = -9223372036854775808
    · exfalso
      apply hne
      rw [hm]
      decide
    · rw [wi_id (by omega) (by omega)]; omega
  unfold rightB ngO
  simp only [e]
  rw [Bool.eq_iff_iff]
  simp only [Bool.and_eq_true, decide_eq_true_eq]
  constructor <;> (intro g; omega)
theorem dom5 {off : Nat} {c : Array Value} {A B : List Value} {i : Nat} : domB (B5 off c A B) i = true → domB (H5 off c A B) i = true := all_dom (by kernel_rfl) i
theorem loop5 (off cap : Nat) (L : List Op3) (hL : L.length ≤ 1000) (hJ : ∀ o ∈ L, inJ o) (B : List Value) : ∀ (j i : Nat) (X : Nat → Value), i + j = L.length →
    ∃ r Y, LoopI Tryd.prog L5 (B5 off (cwx flO off L) ((bkL L).flatMap flO) B) r (F5 off L.length cap i X) (H5 off (cwx flO off L) ((bkL L).flatMap flO) B) (.exit 0) (F5 off L.length cap L.length Y) (H5 off (cwx flO off L) ((bkL L).flatMap flO) B)
  | 0, i, X, hi => by
    have e : i = L.length := by omega
    subst e
    obtain ⟨Y, e⟩ := t5_x off L.length cap (cwx flO off L) L.length X ((bkL L).flatMap flO) B
    exact ⟨1, Y, LoopI.last (fun _ => dom5) (runLS_step mix e ⟨decide_eq_false (by omega), trivial⟩)⟩
  | j + 1, i, X, hi => by
    have hlt : i < L.length := by omega
    have hx : L[i]? = some L[i] := List.getElem?_eq_getElem hlt
    generalize L[i] = o at hx
    have hJo := hJ o (List.mem_of_getElem? hx)
    obtain ⟨c0, c1, c2⟩ := cwO_at off hx
    have hw := wi_nx hlt (show L.length ≤ 9223372036854775807 by omega)
    have hjx : jx L.length i = ((L.length - 1 - i : Nat) : Int) := by
      unfold jx
      rw [wi_id (x := (L.length : Int) - 1) (by omega) (by omega), wi_id (by omega) (by omega)]
      omega
    have hix : ixO (i : Int) L.length := ⟨by omega, by omega⟩
    have hbt : (((bkL L).flatMap flO).drop (0 + (jx L.length i).toNat * 3)).take 3 = flO (ngO o) := by
      rw [hjx, Nat.zero_add]
      exact flO_drop _ _ _ (bk_at hx)
    have how : ∀ v, (o.2.1 != wi (0 - o.2.1)) = v → AllP (ow5 off L.length (cwx flO off L) i o ((bkL L).flatMap flO) v) := fun v hv =>
      ⟨decide_eq_true (by omega), by rw [hjx]; omega, hbt, hix, Nat.le_add_right _ _, c0, by simp, hix, by omega, c2, by simp, hix, by omega, c1, by simp, hix, by omega, c1, hix, by omega, c1, hv, trivial⟩
    by_cases hne : o.2.1 = wi (0 - o.2.1)
    · have hs := runLS_step mix (t5_B off L.length cap (cwx flO off L) i X o ((bkL L).flatMap flO) B) (how false (by rw [← hne]; simp))
      have hn := rn5_B off L.length cap (cwx flO off L) i X o ((bkL L).flatMap flO) B
      rw [hw] at hs hn
      obtain ⟨r, Y, ih⟩ := loop5 off cap L hL hJ B j (i + 1) _ (by omega)
      exact ⟨r + 1, Y, LoopI.round (fun _ => dom5) hs hn ih⟩
    · have hs := runLS_step mix (t5_A off L.length cap (cwx flO off L) i X o ((bkL L).flatMap flO) B (rightB o)) (allP_app (how true (by simpa using hne)) ⟨(right_v (ngO o)).is (by rw [rg_ng hJo hne]), hix, Nat.le_add_right _ _, cwO_take off hx, right_v o, by simp, trivial⟩)
      have hn := rn5_A off L.length cap (cwx flO off L) i X o ((bkL L).flatMap flO) B (rightB o)
      rw [hw] at hs hn
      obtain ⟨r, Y, ih⟩ := loop5 off cap L hL hJ B j (i + 1) _ (by omega)
      exact ⟨r + 1, Y, LoopI.round (fun _ => dom5) hs hn ih⟩
/-- A law of one list, out of runs of letters; of what lies behind it nothing is told. -/
theorem semA_law {α : Type} {K : Kd α} {P : Program} {f : Nat} {args : Value → Array Value} {L : List α} {v : Value} (ha : ∀ β s, renA β (args s) = args (ren β s)) (hv : wfV noB v = true) (hnil : L = [] → PureX P f (args sl0) (rt v))
    (h : ∀ off cap, L.length ≤ cap → cap ≤ maxLen → ∃ H', CallsV P (.func f) (args (slw 1 off L.length cap)) [(1, K.win off L)] (rt v) H') : SemA K P f args L v := by
  intro w s hg hs
  rcases hs with ⟨rfl, hL⟩ | ⟨B, off, cap, rfl, h1, h2, h3⟩
  · exact pure_calls (args' := #[]) (hnil hL) hv w hg
  · obtain ⟨H', h⟩ := h off cap h1 h2
    have := calls_wins (β := fun _ => (B, 0)) hg h (by rw [ha, ren_win (β := fun _ => (B, 0)) (i := 1) rfl h2]) (lie_1 (K.lie (sn := false) rfl h3))
    refine this.mono ?_
    rintro e w' ⟨β', _, rfl, _, hb⟩
    exact ⟨by simp only [Res.out, ren_plain β' hv], hb⟩
theorem backs_ok (L : List Op3) (hJ : ∀ o ∈ L, inJ o) : SemA KO Tryd.prog 5 (fun s => #[s]) L (bb true) := by
  refine semA_law (fun _ _ => rfl) rfl (fun h => ?_) (fun off cap hl hc => ?_)
  · have hb : CallsV Tryd.prog (.func 17) #[sl0] [] (rt sl0) [] := callsV_pure (runF_pure mix t17_nil trivial rfl rfl) rfl rfl
    exact runF_pure mix t5_nil ⟨hb, hb, (semB_calls (s := sl0) (s' := sl0) (dsame_s [] []) (fun _ _ _ => rfl) rfl (fun _ _ _ => ⟨lk_nil, lk_nil⟩)).to rfl rfl, wakes_c, trivial⟩ rfl rfl
  by_cases h60 : 60 < L.length
  · exact ⟨_, runF_calls mix (t5_big off L.length cap (cwx flO off L)) ⟨decide_eq_true (by omega), wakes_c, trivial⟩ rfl rfl⟩
  by_cases hne : L = []
  · subst hne
    have hb : CallsV Tryd.prog (.func 17) #[sl0] [] (rt sl0) [] := callsV_pure (runF_pure mix t17_nil trivial rfl rfl) rfl rfl
    have h1 : CallsV Tryd.prog (.func 17) #[slw 1 off 0 cap] [(1, KO.win off [])] (rt sl0) [(1, KO.win off [])] := semA_calls (s := slw 1 off 0 cap) ((back_s [] (by decide)).1 rfl) (fun _ _ => rfl) rfl (fun _ _ hR => lk_win (K := KO) (L := []) hR rfl hl hc)
    have h2 : CallsV Tryd.prog (.func 16) #[sl0, slw 1 off 0 cap] [(1, KO.win off [])] (rt (bb true)) [(1, KO.win off [])] := semB_calls (s := sl0) (s' := slw 1 off 0 cap) (dsame_s [] []) (fun _ _ _ => rfl) rfl (fun _ _ hR => ⟨lk_nil, lk_win (K := KO) (L := []) hR rfl hl hc⟩)
    exact ⟨_, runF_calls mix (t5_e off cap (cwx flO off [])) ⟨h1, hb, h2, wakes_c, trivial⟩ rfl rfl⟩
  have hL : L.length ≤ 1000 := by omega
  have hbn : bkL L ≠ [] := fun e => hne (bk_nil e)
  have hbb : bkL (bkL L) = L := bk_bk hJ
  have c1 : CallsV Tryd.prog (.func 17) #[slw 1 off L.length cap] [(1, KO.win off L)] (rt (slw 9000 0 L.length capU)) [(9000, KO.opq (bkL L)), (1, KO.win off L)] := by
    have := newA_calls (H := [(1, KO.win off L)]) (k := 9000) (s := slw 1 off L.length cap) ((back_s L hL).2 hbn) false (fun _ _ => rfl) (fun _ _ => rfl) (by simp [domB, look]) (fun _ _ hR => lk_win (K := KO) (L := L) hR (by simp [look]) hl hc)
    rw [bk_len] at this
    exact this
  have c2 : CallsV Tryd.prog (.func 17) #[slw 9000 0 L.length capU] [(9000, KO.opq (bkL L))] (rt (slw 9001 0 L.length capU)) [(9001, KO.opq (bkL (bkL L))), (9000, KO.opq (bkL L))] := by
    have := newA_calls (H := [(9000, KO.opq (bkL L))]) (k := 9001) (s := slw 9000 0 (bkL L).length capU) ((back_s (bkL L) (by rw [bk_len]; exact hL)).2 (by rw [hbb]; exact hne)) false (fun _ _ => rfl) (fun _ _ => rfl) (by simp [domB, look]) (fun _ _ hR => lk_opq (K := KO) (L := bkL L) hR (by simp [look]))
    simp only [bk_len] at this
    exact this
  have c3 : CallsV Tryd.prog (.func 16) #[slw 9001 0 L.length capU, slw 1 off L.length cap] [(9001, KO.opq (bkL (bkL L))), (1, KO.win off L)] (rt (bb true)) [(9001, KO.opq (bkL (bkL L))), (1, KO.win off L)] := by
    have := semB_calls (H := [(9001, KO.opq (bkL (bkL L))), (1, KO.win off L)]) (s := slw 9001 0 (bkL (bkL L)).length capU) (s' := slw 1 off L.length cap) (dsame_s (bkL (bkL L)) L) (fun _ _ _ => rfl) rfl (fun _ _ hR => ⟨lk_opq (K := KO) (L := bkL (bkL L)) hR (by simp [look]), lk_win (K := KO) (L := L) hR (by simp [look]) hl hc⟩)
    rw [bk_len, bk_len, show decide (bkL (bkL L) = L) = true from decide_eq_true hbb] at this
    exact this
  have s0 := runLS_step mix (t5_p0 off L.length cap (cwx flO off L)) trivial
  have s1 := runLS_step mix (t5_p1 off L.length cap (cwx flO off L)) ⟨decide_eq_false (by omega), trivial⟩
  have s2 := runLS_step mix (t5_p2 off L.length cap (cwx flO off L) ((bkL L).flatMap flO)) ⟨c1, trivial⟩
  have s3 := runLS_step mix (t5_p3 off L.length cap (cwx flO off L) ((bkL L).flatMap flO) ((bkL (bkL L)).flatMap flO)) ⟨by simp, c2, c3, trivial⟩
  have s4 := runLS_step mix (t5_p4 off L.length cap (cwx flO off L) ((bkL L).flatMap flO) ((bkL (bkL L)).flatMap flO)) trivial
  obtain ⟨r, Y, h1⟩ := loop5 off cap L hL hJ ((bkL (bkL L)).flatMap flO) L.length 0 (fun _ => ud) (by omega)
  have h4 := LoopI.loop (fun i hi => dom5 hi) (LoopI.preW (rn5_0 off L.length cap (cwx flO off L) (0 : Nat) ((bkL L).flatMap flO) ((bkL (bkL L)).flatMap flO)) h1)
  obtain ⟨T, e3, e4⟩ := t5_t off L.length cap (cwx flO off L) L.length Y ((bkL L).flatMap flO) ((bkL (bkL L)).flatMap flO)
  exact ⟨[(1, KO.win off L)], callsV_step (f := 5) (fc := Tryd.f5) (ex := .ret) rfl b5_eq (s0.seq (s1.seq (s2.seq (s3.seq ((s4.seq (h4.block (id := 0))).seq (runLS_step mix e3 ⟨wakes_c, trivial⟩)))))) rfl e4 (by kernel_rfl) (sameL_sub ⟨rfl, trivial⟩) rfl⟩

end Go.Proofs.YtcjjckokaiobcaaDoor
