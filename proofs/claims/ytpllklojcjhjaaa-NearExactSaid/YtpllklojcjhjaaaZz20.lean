/- Texts of the seat, joined. -/
import Derived.Test.YtpllklojcjhjaaaZz17
/- What is the same; laws of two lists. -/
namespace Go.Proofs.Ytpllklojcjhjaaa
open Go Go.RowKit
set_option linter.unusedSimpArgs false
set_option linter.unusedVariables false
set_option maxRecDepth 100000

section
variable {α α2 : Type} {K : Kd α} {K2 : Kd α2} {P : Program} {f : Nat} {args2 : Value → Value → Array Value} {L : List α} {M : List α2} {v : Value}
/-- A law of two lists, out of runs of letters; of what lies behind it nothing is told. -/
theorem semB_law (sn sn2 : Bool) (ha : ∀ β s s', renA β (args2 s s') = args2 (ren β s) (ren β s')) (hv : wfV noB v = true)
    (hnn : L = [] → M = [] → PureX P f (args2 sl0 sl0) (rt v))
    (hnw : L = [] → ∀ off cap, M.length ≤ cap → cap ≤ maxLen → ∃ H', CallsV P (.func f) (args2 sl0 (K2.val sn2 2 off M cap)) [(2, K2.ob sn2 off M)] (rt v) H')
    (hwn : M = [] → ∀ off cap, L.length ≤ cap → cap ≤ maxLen → ∃ H', CallsV P (.func f) (args2 (K.val sn 1 off L cap) sl0) [(1, K.ob sn off L)] (rt v) H')
    (hww : ∀ off cap off' cap', L.length ≤ cap → cap ≤ maxLen → M.length ≤ cap' → cap' ≤ maxLen → ∃ H', CallsV P (.func f) (args2 (K.val sn 1 off L cap) (K2.val sn2 2 off' M cap')) [(1, K.ob sn off L), (2, K2.ob sn2 off' M)] (rt v) H') : SemB K K2 P f args2 L M v := by
  intro w s s' hg hs hs'
  rcases hs with ⟨rfl, hL⟩ | ⟨B, off, cap, rfl, h1, h2, h3⟩ <;> rcases hs' with ⟨rfl, hM⟩ | ⟨B', off', cap', rfl, g1, g2, g3⟩
  · exact pure_calls (args' := #[]) (hnn hL hM) hv w hg
  · obtain ⟨H', h⟩ := hnw hL off' cap' g1 g2
    have := calls_wins (β := fun _ => Kd.nm sn2 B' off') hg h (by rw [ha, K2.ren (sn := sn2) (β := fun _ => Kd.nm sn2 B' off') (i := 2) (B := B') (off := off') (L := M) rfl g2]) (lie_1 (K2.lie rfl g3))
    refine this.mono ?_
    rintro e w' ⟨β', _, rfl, _, hb⟩
    exact ⟨by simp only [Res.out, ren_plain β' hv], hb⟩
  · obtain ⟨H', h⟩ := hwn hM off cap h1 h2
    have := calls_wins (β := fun _ => Kd.nm sn B off) hg h (by rw [ha, K.ren (sn := sn) (β := fun _ => Kd.nm sn B off) (i := 1) (B := B) (off := off) (L := L) rfl h2]) (lie_1 (K.lie rfl h3))
    refine this.mono ?_
    rintro e w' ⟨β', _, rfl, _, hb⟩
    exact ⟨by simp only [Res.out, ren_plain β' hv], hb⟩
  · obtain ⟨H', h⟩ := hww off cap off' cap' h1 h2 g1 g2
    have := calls_wins (β := fun i => if i = 1 then Kd.nm sn B off else Kd.nm sn2 B' off') hg h (by rw [ha, K.ren (sn := sn) (β := fun i => if i = 1 then Kd.nm sn B off else Kd.nm sn2 B' off') (i := 1) (B := B) (off := off) (L := L) rfl h2, K2.ren (sn := sn2) (β := fun i => if i = 1 then Kd.nm sn B off else Kd.nm sn2 B' off') (i := 2) (B := B') (off := off') (L := M) rfl g2]) (lie_2 (K.lie rfl h3) (K2.lie rfl g3))
    refine this.mono ?_
    rintro e w' ⟨β', _, rfl, _, hb⟩
    exact ⟨by simp only [Res.out, ren_plain β' hv], hb⟩
end
theorem gl_any (W : World) : GL W := fun e he => by cases he
theorem look_swp {i k : Nat} {a b : Obj} (h : i ≠ k) : ∀ j, look [(i, a), (k, b)] j = look [(k, b), (i, a)] j := fun j => by
  simp only [look]
  by_cases e1 : i = j <;> by_cases e2 : k = j <;> simp [e1, e2]
  omega
theorem same_1 (st : Int) (cap cap2 : Nat) (a : Bd) : runF Try.prog 1000 [1, 2] 16 #[sv st (slw 1 0 1 cap), sv st (slw 2 0 1 cap2)] [(1, wob [a]), (2, wob [a])] [f, n, n, n, n, n, n, n, n, f, n] [] [] [] =
    some (rt (bb (true)), [(1, wob [a]), (2, wob [a])], [(st != st) = false, (!(((a.1.1 == a.1.1) && ((a.1.2.1 == a.1.2.1) && ((a.1.2.2 == a.1.2.2) && (true)))) && (((a.2.1 == a.2.1) && ((a.2.2.1 == a.2.2.1) && ((a.2.2.2 == a.2.2.2) && (true)))) && (true)))) = false]) := by kernel_rfl
theorem same_2 (st : Int) (cap cap2 : Nat) (a b : Bd) : runF Try.prog 1000 [1, 2] 16 #[sv st (slw 1 0 2 cap), sv st (slw 2 0 2 cap2)] [(1, wob [a, b]), (2, wob [a, b])] [f, n, n, n, n, n, n, n, n, f, n, f, n] [] [] [] =
    some (rt (bb (true)), [(1, wob [a, b]), (2, wob [a, b])], [(st != st) = false, (!(((a.1.1 == a.1.1) && ((a.1.2.1 == a.1.2.1) && ((a.1.2.2 == a.1.2.2) && (true)))) && (((a.2.1 == a.2.1) && ((a.2.2.1 == a.2.2.1) && ((a.2.2.2 == a.2.2.2) && (true)))) && (true)))) = false, (!(((b.1.1 == b.1.1) && ((b.1.2.1 == b.1.2.1) && ((b.1.2.2 == b.1.2.2) && (true)))) && (((b.2.1 == b.2.1) && ((b.2.2.1 == b.2.2.1) && ((b.2.2.2 == b.2.2.2) && (true)))) && (true)))) = false]) := by kernel_rfl
theorem same_3 (st : Int) (cap cap2 : Nat) (a b d : Bd) : runF Try.prog 1000 [1, 2] 16 #[sv st (slw 1 0 3 cap), sv st (slw 2 0 3 cap2)] [(1, wob [a, b, d]), (2, wob [a, b, d])] [f, n, n, n, n, n, n, n, n, f, n, f, n, f, n] [] [] [] =
    some (rt (bb (true)), [(1, wob [a, b, d]), (2, wob [a, b, d])], [(st != st) = false, (!(((a.1.1 == a.1.1) && ((a.1.2.1 == a.1.2.1) && ((a.1.2.2 == a.1.2.2) && (true)))) && (((a.2.1 == a.2.1) && ((a.2.2.1 == a.2.2.1) && ((a.2.2.2 == a.2.2.2) && (true)))) && (true)))) = false, (!(((b.1.1 == b.1.1) && ((b.1.2.1 == b.1.2.1) && ((b.1.2.2 == b.1.2.2) && (true)))) && (((b.2.1 == b.2.1) && ((b.2.2.1 == b.2.2.1) && ((b.2.2.2 == b.2.2.2) && (true)))) && (true)))) = false, (!(((d.1.1 == d.1.1) && ((d.1.2.1 == d.1.2.1) && ((d.1.2.2 == d.1.2.2) && (true)))) && (((d.2.1 == d.2.1) && ((d.2.2.1 == d.2.2.1) && ((d.2.2.2 == d.2.2.2) && (true)))) && (true)))) = false]) := by kernel_rfl
theorem same_4 (st : Int) (cap cap2 : Nat) (a b d e : Bd) : runF Try.prog 1000 [1, 2] 16 #[sv st (slw 1 0 4 cap), sv st (slw 2 0 4 cap2)] [(1, wob [a, b, d, e]), (2, wob [a, b, d, e])] [f, n, n, n, n, n, n, n, n, f, n, f, n, f, n, f, n] [] [] [] =
    some (rt (bb (true)), [(1, wob [a, b, d, e]), (2, wob [a, b, d, e])], [(st != st) = false, (!(((a.1.1 == a.1.1) && ((a.1.2.1 == a.1.2.1) && ((a.1.2.2 == a.1.2.2) && (true)))) && (((a.2.1 == a.2.1) && ((a.2.2.1 == a.2.2.1) && ((a.2.2.2 == a.2.2.2) && (true)))) && (true)))) = false, (!(((b.1.1 == b.1.1) && ((b.1.2.1 == b.1.2.1) && ((b.1.2.2 == b.1.2.2) && (true)))) && (((b.2.1 == b.2.1) && ((b.2.2.1 == b.2.2.1) && ((b.2.2.2 == b.2.2.2) && (true)))) && (true)))) = false, (!(((d.1.1 == d.1.1) && ((d.1.2.1 == d.1.2.1) && ((d.1.2.2 == d.1.2.2) && (true)))) && (((d.2.1 == d.2.1) && ((d.2.2.1 == d.2.2.1) && ((d.2.2.2 == d.2.2.2) && (true)))) && (true)))) = false, (!(((e.1.1 == e.1.1) && ((e.1.2.1 == e.1.2.1) && ((e.1.2.2 == e.1.2.2) && (true)))) && (((e.2.1 == e.2.1) && ((e.2.2.1 == e.2.2.1) && ((e.2.2.2 == e.2.2.2) && (true)))) && (true)))) = false]) := by kernel_rfl
theorem psame_1 (cap cap2 : Nat) (p : Pr) : runF Try.prog 1000 [1, 2] 19 #[slw 1 0 1 cap, slw 2 0 1 cap2] [(1, KP.seen [p]), (2, KP.seen [p])] [n, n, f, n] [] [] [] =
    some (rt (bb (true)), [(1, KP.seen [p]), (2, KP.seen [p])], [(!((p.1 == p.1) && ((p.2.1 == p.2.1) && ((p.2.2 == p.2.2) && (true))))) = false]) := by kernel_rfl
theorem psame_3 (cap cap2 : Nat) (p q r : Pr) : runF Try.prog 1000 [1, 2] 19 #[slw 1 0 3 cap, slw 2 0 3 cap2] [(1, KP.seen [p, q, r]), (2, KP.seen [p, q, r])] [n, n, f, n, f, n, f, n] [] [] [] =
    some (rt (bb (true)), [(1, KP.seen [p, q, r]), (2, KP.seen [p, q, r])], [(!((p.1 == p.1) && ((p.2.1 == p.2.1) && ((p.2.2 == p.2.2) && (true))))) = false, (!((q.1 == q.1) && ((q.2.1 == q.2.1) && ((q.2.2 == q.2.2) && (true))))) = false, (!((r.1 == r.1) && ((r.2.1 == r.2.1) && ((r.2.2 == r.2.2) && (true))))) = false]) := by kernel_rfl
theorem psame_6 (cap cap2 : Nat) (p q r s u v : Pr) : runF Try.prog 1000 [1, 2] 19 #[slw 1 0 6 cap, slw 2 0 6 cap2] [(1, KP.seen [p, q, r, s, u, v]), (2, KP.seen [p, q, r, s, u, v])] [n, n, f, n, f, n, f, n, f, n, f, n, f, n] [] [] [] =
    some (rt (bb (true)), [(1, KP.seen [p, q, r, s, u, v]), (2, KP.seen [p, q, r, s, u, v])], [(!((p.1 == p.1) && ((p.2.1 == p.2.1) && ((p.2.2 == p.2.2) && (true))))) = false, (!((q.1 == q.1) && ((q.2.1 == q.2.1) && ((q.2.2 == q.2.2) && (true))))) = false, (!((r.1 == r.1) && ((r.2.1 == r.2.1) && ((r.2.2 == r.2.2) && (true))))) = false, (!((s.1 == s.1) && ((s.2.1 == s.2.1) && ((s.2.2 == s.2.2) && (true))))) = false, (!((u.1 == u.1) && ((u.2.1 == u.2.1) && ((u.2.2 == u.2.2) && (true))))) = false, (!((v.1 == v.1) && ((v.2.1 == v.2.1) && ((v.2.2 == v.2.2) && (true))))) = false]) := by kernel_rfl
theorem psame_0  : runF Try.prog 1000 [] 19 #[sl0, sl0] [] [n, n] [] [] [] =
    some (rt (bb (true)), [], []) := by kernel_rfl
theorem neg_raw (a : P3) : runF Try.prog 1000 [] 17 #[vv a] [] [] [] [] [] =
    some (rt (vc (wi (0 - a.1)) (wi (0 - a.2.1)) (wi (0 - a.2.2))), [], []) := by kernel_rfl

theorem psame_0w (cap : Nat) : runF Try.prog 1000 [2] 19 #[sl0, slw 2 0 0 cap] [(2, KP.seen [])] [] [] [] [] = some (rt (bb true), [(2, KP.seen [])], []) := by kernel_rfl
theorem psame_w0 (cap : Nat) : runF Try.prog 1000 [1] 19 #[slw 1 0 0 cap, sl0] [(1, KP.seen [])] [] [] [] [] = some (rt (bb true), [(1, KP.seen [])], []) := by kernel_rfl
theorem psame_00 (cap cap' : Nat) : runF Try.prog 1000 [1, 2] 19 #[slw 1 0 0 cap, slw 2 0 0 cap'] [(1, KP.seen []), (2, KP.seen [])] [] [] [] [] = some (rt (bb true), [(1, KP.seen []), (2, KP.seen [])], []) := by kernel_rfl
theorem ren_ss (st so : Int) : ∀ (β : Num) (s s' : Value), renA β #[sv st s, sv so s'] = #[sv st (ren β s), sv so (ren β s')] := fun _ _ _ => rfl
theorem ren_pp : ∀ (β : Num) (s s' : Value), renA β #[s, s'] = #[ren β s, ren β s'] := fun _ _ _ => rfl
/-- A state is the same as itself, wherever its bodies lie. -/
theorem same_s (st : Int) {L : List Bd} (h1 : 1 ≤ L.length) (h4 : L.length ≤ 4) : SemB KB KB Try.prog 16 (fun s s' => #[sv st s, sv st s']) L L (bb true) := by
  rcases shapes h1 h4 with ⟨a, rfl⟩ | ⟨a, b, rfl⟩ | ⟨a, b, d, rfl⟩ | ⟨a, b, d, e, rfl⟩
  · exact semB_ww true true (by simp) (by simp) (ren_ss st st) rfl (fun off cap off2 cap2 hl hc1 hl2 hc2 => runF_calls mix (same_1 st cap cap2 a) ⟨by simp, by simp, trivial⟩ rfl rfl)
  · exact semB_ww true true (by simp) (by simp) (ren_ss st st) rfl (fun off cap off2 cap2 hl hc1 hl2 hc2 => runF_calls mix (same_2 st cap cap2 a b) ⟨by simp, by simp, by simp, trivial⟩ rfl rfl)
  · exact semB_ww true true (by simp) (by simp) (ren_ss st st) rfl (fun off cap off2 cap2 hl hc1 hl2 hc2 => runF_calls mix (same_3 st cap cap2 a b d) ⟨by simp, by simp, by simp, by simp, trivial⟩ rfl rfl)
  · exact semB_ww true true (by simp) (by simp) (ren_ss st st) rfl (fun off cap off2 cap2 hl hc1 hl2 hc2 => runF_calls mix (same_4 st cap cap2 a b d e) ⟨by simp, by simp, by simp, by simp, by simp, trivial⟩ rfl rfl)
theorem psame_s {Q : List Pr} (h : Q.length = 0 ∨ Q.length = 1 ∨ Q.length = 3 ∨ Q.length = 6) : SemB KP KP Try.prog 19 (fun s s' => #[s, s']) Q Q (bb true) := by
  match Q, h with
  | [], _ => exact semB_mk true true ren_pp rfl (fun _ _ => runF_pure mix psame_0 trivial rfl rfl) (fun _ off cap hl hc => runF_calls mix (psame_0w cap) trivial rfl rfl) (fun _ off cap hl hc => runF_calls mix (psame_w0 cap) trivial rfl rfl) (fun off cap off' cap' hl hc hl' hc' => runF_calls mix (psame_00 cap cap') trivial rfl rfl)
  | [p], _ => exact semB_ww true true (by simp) (by simp) ren_pp rfl (fun off cap off2 cap2 hl hc1 hl2 hc2 => runF_calls mix (psame_1 cap cap2 p) ⟨by simp, trivial⟩ rfl rfl)
  | [p, q, r], _ => exact semB_ww true true (by simp) (by simp) ren_pp rfl (fun off cap off2 cap2 hl hc1 hl2 hc2 => runF_calls mix (psame_3 cap cap2 p q r) ⟨by simp, by simp, by simp, trivial⟩ rfl rfl)
  | [p, q, r, s, u, v], _ => exact semB_ww true true (by simp) (by simp) ren_pp rfl (fun off cap off2 cap2 hl hc1 hl2 hc2 => runF_calls mix (psame_6 cap cap2 p q r s u v) ⟨by simp, by simp, by simp, by simp, by simp, by simp, trivial⟩ rfl rfl)
  | [_, _], h => simp at h
  | [_, _, _, _], h => simp at h
  | [_, _, _, _, _], h => simp at h
  | _ :: _ :: _ :: _ :: _ :: _ :: _ :: _, h => simp at h
theorem neg_c (a : P3) : PureX Try.prog 17 #[vv a] (rt (vv (ngP a))) := runF_pure mix (neg_raw a) trivial rfl rfl

end Go.Proofs.Ytpllklojcjhjaaa
