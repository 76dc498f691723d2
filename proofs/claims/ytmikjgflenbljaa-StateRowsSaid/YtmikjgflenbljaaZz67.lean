/- Texts of the seat, joined. -/
import Derived.Test.YtmikjgflenbljaaZz66
import Derived.Test.YtmikjgflenbljaaZz31
import Derived.Test.YtmikjgflenbljaaZz32
import Derived.Test.YtmikjgflenbljaaZz33
import Derived.Test.YtmikjgflenbljaaZz34
/- The law StateRows: what it answers, 1 of 4. -/
namespace Go.Proofs.Ytmikjgflenbljaa
open Go Go.RowKit
set_option linter.unusedSimpArgs false
set_option linter.unusedVariables false
set_option maxRecDepth 100000

theorem c3_xx (st : Int) (off n' cap : Nat) (c : Array Value) (of2 m2 cp2 : Nat) (c2 : Array Value) (hs : sPx st off n' cap c) (hl : lPx of2 m2 cp2 c2) : CallsV Try.prog (.func 3) #[sv st (slw 1 off n' cap), slw 2 of2 m2 cp2] [(1, win off c), (2, win of2 c2)] (rt (bb true)) [(2, win of2 c2), (1, win off c)] := by
  obtain ⟨s_0, s_1, s_2⟩ := hs
  obtain ⟨l_0, l_1⟩ := hl
  exact runF_calls mix (l3_xx st off n' cap c of2 m2 cp2 c2) ⟨s_0, l_0, s_1, s_2, l_1, nil8 0, wakes_c, trivial⟩ rfl rfl
theorem c3_x3 (st : Int) (off n' cap : Nat) (c : Array Value) (s2 : Int) (cp2 : Nat) (u v w : Bd) (hs : sPx st off n' cap c) (hl : lP3 s2 cp2 u v w) : CallsV Try.prog (.func 3) #[sv st (slw 1 off n' cap), slw 2 0 20 cp2] [(1, win off c), (2, wrob s2 3 [u, v, w])] (rt (bb true)) [(2, wrob s2 3 [u, v, w]), (1, win off c)] := by
  obtain ⟨s_0, s_1, s_2⟩ := hs
  obtain ⟨l_0, l_1, l_2⟩ := hl
  exact runF_calls mix (l3_x3 st off n' cap c s2 cp2 u v w) ⟨s_0, s_1, s_2, l_0, l_1, l_2, wakes_c, trivial⟩ rfl rfl
theorem c3_01 (st : Int) (s2 : Int) (cp2 : Nat) (u : Bd) (hl : lP1 s2 cp2 u) : CallsV Try.prog (.func 3) #[sv st sl0, slw 2 0 8 cp2] [(2, wrob s2 1 [u])] (rt (bb true)) [(2, wrob s2 1 [u])] := by
  obtain ⟨l_0, l_1, l_2⟩ := hl
  exact runF_calls mix (l3_01 st s2 cp2 u) ⟨nil8 st, rright_nil st, l_0, l_1, l_2, wakes_c, trivial⟩ rfl rfl
theorem c3_1x (st : Int) (cap : Nat) (a : Bd) (of2 m2 cp2 : Nat) (c2 : Array Value) (hs : sP1 st cap a) (hl : lPx of2 m2 cp2 c2) : CallsV Try.prog (.func 3) #[sv st (slw 1 0 1 cap), slw 2 of2 m2 cp2] [(1, wob [a]), (2, win of2 c2)] (rt (bb true)) [(2, win of2 c2), (1, wob [a])] := by
  obtain ⟨s_0, s_1, s_2, s_3, s_4, s_5⟩ := hs
  obtain ⟨l_0, l_1⟩ := hl
  exact runF_calls mix (l3_1x st cap a of2 m2 cp2 c2) ⟨l_0, s_0, s_1, s_2, s_3, s_4, s_5, l_1, nil8 0, wakes_c, trivial⟩ rfl rfl
theorem c3_13 (st : Int) (cap : Nat) (a : Bd) (s2 : Int) (cp2 : Nat) (u v w : Bd) (hs : sP1 st cap a) (hl : lP3 s2 cp2 u v w) : CallsV Try.prog (.func 3) #[sv st (slw 1 0 1 cap), slw 2 0 20 cp2] [(1, wob [a]), (2, wrob s2 3 [u, v, w])] (rt (bb true)) [(2, wrob s2 3 [u, v, w]), (1, wob [a])] := by
  obtain ⟨s_0, s_1, s_2, s_3, s_4, s_5⟩ := hs
  obtain ⟨l_0, l_1, l_2⟩ := hl
  exact runF_calls mix (l3_13 st cap a s2 cp2 u v w) ⟨s_0, s_1, s_2, s_3, s_4, s_5, l_0, l_1, l_2, wakes_c, trivial⟩ rfl rfl
theorem c3_21 (st : Int) (cap : Nat) (a b : Bd) (s2 : Int) (cp2 : Nat) (u : Bd) (hs : sP2 st cap a b) (hl : lP1 s2 cp2 u) : CallsV Try.prog (.func 3) #[sv st (slw 1 0 2 cap), slw 2 0 8 cp2] [(1, wob [a, b]), (2, wrob s2 1 [u])] (rt (bb true)) [(2, wrob s2 1 [u]), (1, wob [a, b])] := by
  obtain ⟨s_0, s_1, s_2, s_3, s_4, s_5⟩ := hs
  obtain ⟨l_0, l_1, l_2⟩ := hl
  exact runF_calls mix (l3_21 st cap a b s2 cp2 u) ⟨s_0, s_1, s_2, s_3, s_4, s_5, l_0, l_1, l_2, wakes_c, trivial⟩ rfl rfl
theorem c3_3x (st : Int) (cap : Nat) (a b d : Bd) (of2 m2 cp2 : Nat) (c2 : Array Value) (hs : sP3 st cap a b d) (hl : lPx of2 m2 cp2 c2) : CallsV Try.prog (.func 3) #[sv st (slw 1 0 3 cap), slw 2 of2 m2 cp2] [(1, wob [a, b, d]), (2, win of2 c2)] (rt (bb true)) [(2, win of2 c2), (1, wob [a, b, d])] := by
  obtain ⟨s_0, s_1, s_2, s_3, s_4, s_5⟩ := hs
  obtain ⟨l_0, l_1⟩ := hl
  exact runF_calls mix (l3_3x st cap a b d of2 m2 cp2 c2) ⟨l_0, s_0, s_1, s_2, s_3, s_4, s_5, l_1, nil8 0, wakes_c, trivial⟩ rfl rfl
theorem c3_33 (st : Int) (cap : Nat) (a b d : Bd) (s2 : Int) (cp2 : Nat) (u v w : Bd) (hs : sP3 st cap a b d) (hl : lP3 s2 cp2 u v w) : CallsV Try.prog (.func 3) #[sv st (slw 1 0 3 cap), slw 2 0 20 cp2] [(1, wob [a, b, d]), (2, wrob s2 3 [u, v, w])] (rt (bb true)) [(2, wrob s2 3 [u, v, w]), (1, wob [a, b, d])] := by
  obtain ⟨s_0, s_1, s_2, s_3, s_4, s_5⟩ := hs
  obtain ⟨l_0, l_1, l_2⟩ := hl
  exact runF_calls mix (l3_33 st cap a b d s2 cp2 u v w) ⟨s_0, s_1, s_2, s_3, s_4, s_5, l_0, l_1, l_2, wakes_c, trivial⟩ rfl rfl
theorem c3_41 (st : Int) (cap : Nat) (a b d e : Bd) (s2 : Int) (cp2 : Nat) (u : Bd) (hs : sP4 st cap a b d e) (hl : lP1 s2 cp2 u) : CallsV Try.prog (.func 3) #[sv st (slw 1 0 4 cap), slw 2 0 8 cp2] [(1, wob [a, b, d, e]), (2, wrob s2 1 [u])] (rt (bb true)) [(2, wrob s2 1 [u]), (1, wob [a, b, d, e])] := by
  obtain ⟨s_0, s_1, s_2, s_3, s_4, s_5⟩ := hs
  obtain ⟨l_0, l_1, l_2⟩ := hl
  exact runF_calls mix (l3_41 st cap a b d e s2 cp2 u) ⟨s_0, s_1, s_2, s_3, s_4, s_5, l_0, l_1, l_2, wakes_c, trivial⟩ rfl rfl
end Go.Proofs.Ytmikjgflenbljaa

/- The law StateRows: what it answers, 2 of 4. -/
namespace Go.Proofs.Ytmikjgflenbljaa
open Go Go.RowKit
set_option linter.unusedSimpArgs false
set_option linter.unusedVariables false
set_option maxRecDepth 100000

theorem c3_x0 (st : Int) (off n' cap : Nat) (c : Array Value) (hs : sPx st off n' cap c) : CallsV Try.prog (.func 3) #[sv st (slw 1 off n' cap), sl0] [(1, win off c)] (rt (bb true)) [(1, win off c)] := by
  obtain ⟨s_0, s_1, s_2⟩ := hs
  exact runF_calls mix (l3_x0 st off n' cap c) ⟨s_0, s_1, s_2, nil10, nil8 0, wakes_c, trivial⟩ rfl rfl
theorem c3_x4 (st : Int) (off n' cap : Nat) (c : Array Value) (s2 : Int) (cp2 : Nat) (u v w x : Bd) (hs : sPx st off n' cap c) (hl : lP4 s2 cp2 u v w x) : CallsV Try.prog (.func 3) #[sv st (slw 1 off n' cap), slw 2 0 26 cp2] [(1, win off c), (2, wrob s2 4 [u, v, w, x])] (rt (bb true)) [(2, wrob s2 4 [u, v, w, x]), (1, win off c)] := by
  obtain ⟨s_0, s_1, s_2⟩ := hs
  obtain ⟨l_0, l_1, l_2⟩ := hl
  exact runF_calls mix (l3_x4 st off n' cap c s2 cp2 u v w x) ⟨s_0, s_1, s_2, l_0, l_1, l_2, wakes_c, trivial⟩ rfl rfl
theorem c3_02 (st : Int) (s2 : Int) (cp2 : Nat) (u v : Bd) (hl : lP2 s2 cp2 u v) : CallsV Try.prog (.func 3) #[sv st sl0, slw 2 0 14 cp2] [(2, wrob s2 2 [u, v])] (rt (bb true)) [(2, wrob s2 2 [u, v])] := by
  obtain ⟨l_0, l_1, l_2⟩ := hl
  exact runF_calls mix (l3_02 st s2 cp2 u v) ⟨nil8 st, rright_nil st, l_0, l_1, l_2, wakes_c, trivial⟩ rfl rfl
theorem c3_10 (st : Int) (cap : Nat) (a : Bd) (hs : sP1 st cap a) : CallsV Try.prog (.func 3) #[sv st (slw 1 0 1 cap), sl0] [(1, wob [a])] (rt (bb true)) [(1, wob [a])] := by
  obtain ⟨s_0, s_1, s_2, s_3, s_4, s_5⟩ := hs
  exact runF_calls mix (l3_10 st cap a) ⟨s_0, s_1, s_2, s_3, s_4, s_5, nil10, nil8 0, wakes_c, trivial⟩ rfl rfl
theorem c3_14 (st : Int) (cap : Nat) (a : Bd) (s2 : Int) (cp2 : Nat) (u v w x : Bd) (hs : sP1 st cap a) (hl : lP4 s2 cp2 u v w x) : CallsV Try.prog (.func 3) #[sv st (slw 1 0 1 cap), slw 2 0 26 cp2] [(1, wob [a]), (2, wrob s2 4 [u, v, w, x])] (rt (bb true)) [(2, wrob s2 4 [u, v, w, x]), (1, wob [a])] := by
  obtain ⟨s_0, s_1, s_2, s_3, s_4, s_5⟩ := hs
  obtain ⟨l_0, l_1, l_2⟩ := hl
  exact runF_calls mix (l3_14 st cap a s2 cp2 u v w x) ⟨s_0, s_1, s_2, s_3, s_4, s_5, l_0, l_1, l_2, wakes_c, trivial⟩ rfl rfl
theorem c3_22 (st : Int) (cap : Nat) (a b : Bd) (s2 : Int) (cp2 : Nat) (u v : Bd) (hs : sP2 st cap a b) (hl : lP2 s2 cp2 u v) : CallsV Try.prog (.func 3) #[sv st (slw 1 0 2 cap), slw 2 0 14 cp2] [(1, wob [a, b]), (2, wrob s2 2 [u, v])] (rt (bb true)) [(2, wrob s2 2 [u, v]), (1, wob [a, b])] := by
  obtain ⟨s_0, s_1, s_2, s_3, s_4, s_5⟩ := hs
  obtain ⟨l_0, l_1, l_2⟩ := hl
  exact runF_calls mix (l3_22 st cap a b s2 cp2 u v) ⟨s_0, s_1, s_2, s_3, s_4, s_5, l_0, l_1, l_2, wakes_c, trivial⟩ rfl rfl
theorem c3_30 (st : Int) (cap : Nat) (a b d : Bd) (hs : sP3 st cap a b d) : CallsV Try.prog (.func 3) #[sv st (slw 1 0 3 cap), sl0] [(1, wob [a, b, d])] (rt (bb true)) [(1, wob [a, b, d])] := by
  obtain ⟨s_0, s_1, s_2, s_3, s_4, s_5⟩ := hs
  exact runF_calls mix (l3_30 st cap a b d) ⟨s_0, s_1, s_2, s_3, s_4, s_5, nil10, nil8 0, wakes_c, trivial⟩ rfl rfl
theorem c3_34 (st : Int) (cap : Nat) (a b d : Bd) (s2 : Int) (cp2 : Nat) (u v w x : Bd) (hs : sP3 st cap a b d) (hl : lP4 s2 cp2 u v w x) : CallsV Try.prog (.func 3) #[sv st (slw 1 0 3 cap), slw 2 0 26 cp2] [(1, wob [a, b, d]), (2, wrob s2 4 [u, v, w, x])] (rt (bb true)) [(2, wrob s2 4 [u, v, w, x]), (1, wob [a, b, d])] := by
  obtain ⟨s_0, s_1, s_2, s_3, s_4, s_5⟩ := hs
  obtain ⟨l_0, l_1, l_2⟩ := hl
  exact runF_calls mix (l3_34 st cap a b d s2 cp2 u v w x) ⟨s_0, s_1, s_2, s_3, s_4, s_5, l_0, l_1, l_2, wakes_c, trivial⟩ rfl rfl
theorem c3_42 (st : Int) (cap : Nat) (a b d e : Bd) (s2 : Int) (cp2 : Nat) (u v : Bd) (hs : sP4 st cap a b d e) (hl : lP2 s2 cp2 u v) : CallsV Try.prog (.func 3) #[sv st (slw 1 0 4 cap), slw 2 0 14 cp2] [(1, wob [a, b, d, e]), (2, wrob s2 2 [u, v])] (rt (bb true)) [(2, wrob s2 2 [u, v]), (1, wob [a, b, d, e])] := by
  obtain ⟨s_0, s_1, s_2, s_3, s_4, s_5⟩ := hs
  obtain ⟨l_0, l_1, l_2⟩ := hl
  exact runF_calls mix (l3_42 st cap a b d e s2 cp2 u v) ⟨s_0, s_1, s_2, s_3, s_4, s_5, l_0, l_1, l_2, wakes_c, trivial⟩ rfl rfl
end Go.Proofs.Ytmikjgflenbljaa

/- The law StateRows: what it answers, 3 of 4. -/
namespace Go.Proofs.Ytmikjgflenbljaa
open Go Go.RowKit
set_option linter.unusedSimpArgs false
set_option linter.unusedVariables false
set_option maxRecDepth 100000

theorem c3_x1 (st : Int) (off n' cap : Nat) (c : Array Value) (s2 : Int) (cp2 : Nat) (u : Bd) (hs : sPx st off n' cap c) (hl : lP1 s2 cp2 u) : CallsV Try.prog (.func 3) #[sv st (slw 1 off n' cap), slw 2 0 8 cp2] [(1, win off c), (2, wrob s2 1 [u])] (rt (bb true)) [(2, wrob s2 1 [u]), (1, win off c)] := by
  obtain ⟨s_0, s_1, s_2⟩ := hs
  obtain ⟨l_0, l_1, l_2⟩ := hl
  exact runF_calls mix (l3_x1 st off n' cap c s2 cp2 u) ⟨s_0, s_1, s_2, l_0, l_1, l_2, wakes_c, trivial⟩ rfl rfl
theorem c3_0x (st : Int) (of2 m2 cp2 : Nat) (c2 : Array Value) (hl : lPx of2 m2 cp2 c2) : CallsV Try.prog (.func 3) #[sv st sl0, slw 2 of2 m2 cp2] [(2, win of2 c2)] (rt (bb true)) [(2, win of2 c2)] := by
  obtain ⟨l_0, l_1⟩ := hl
  exact runF_calls mix (l3_0x st of2 m2 cp2 c2) ⟨l_0, nil8 st, rright_nil st, l_1, nil8 0, wakes_c, trivial⟩ rfl rfl
theorem c3_03 (st : Int) (s2 : Int) (cp2 : Nat) (u v w : Bd) (hl : lP3 s2 cp2 u v w) : CallsV Try.prog (.func 3) #[sv st sl0, slw 2 0 20 cp2] [(2, wrob s2 3 [u, v, w])] (rt (bb true)) [(2, wrob s2 3 [u, v, w])] := by
  obtain ⟨l_0, l_1, l_2⟩ := hl
  exact runF_calls mix (l3_03 st s2 cp2 u v w) ⟨nil8 st, rright_nil st, l_0, l_1, l_2, wakes_c, trivial⟩ rfl rfl
theorem c3_11 (st : Int) (cap : Nat) (a : Bd) (s2 : Int) (cp2 : Nat) (u : Bd) (hs : sP1 st cap a) (hl : lP1 s2 cp2 u) : CallsV Try.prog (.func 3) #[sv st (slw 1 0 1 cap), slw 2 0 8 cp2] [(1, wob [a]), (2, wrob s2 1 [u])] (rt (bb true)) [(2, wrob s2 1 [u]), (1, wob [a])] := by
  obtain ⟨s_0, s_1, s_2, s_3, s_4, s_5⟩ := hs
  obtain ⟨l_0, l_1, l_2⟩ := hl
  exact runF_calls mix (l3_11 st cap a s2 cp2 u) ⟨s_0, s_1, s_2, s_3, s_4, s_5, l_0, l_1, l_2, wakes_c, trivial⟩ rfl rfl
theorem c3_2x (st : Int) (cap : Nat) (a b : Bd) (of2 m2 cp2 : Nat) (c2 : Array Value) (hs : sP2 st cap a b) (hl : lPx of2 m2 cp2 c2) : CallsV Try.prog (.func 3) #[sv st (slw 1 0 2 cap), slw 2 of2 m2 cp2] [(1, wob [a, b]), (2, win of2 c2)] (rt (bb true)) [(2, win of2 c2), (1, wob [a, b])] := by
  obtain ⟨s_0, s_1, s_2, s_3, s_4, s_5⟩ := hs
  obtain ⟨l_0, l_1⟩ := hl
  exact runF_calls mix (l3_2x st cap a b of2 m2 cp2 c2) ⟨l_0, s_0, s_1, s_2, s_3, s_4, s_5, l_1, nil8 0, wakes_c, trivial⟩ rfl rfl
theorem c3_23 (st : Int) (cap : Nat) (a b : Bd) (s2 : Int) (cp2 : Nat) (u v w : Bd) (hs : sP2 st cap a b) (hl : lP3 s2 cp2 u v w) : CallsV Try.prog (.func 3) #[sv st (slw 1 0 2 cap), slw 2 0 20 cp2] [(1, wob [a, b]), (2, wrob s2 3 [u, v, w])] (rt (bb true)) [(2, wrob s2 3 [u, v, w]), (1, wob [a, b])] := by
  obtain ⟨s_0, s_1, s_2, s_3, s_4, s_5⟩ := hs
  obtain ⟨l_0, l_1, l_2⟩ := hl
  exact runF_calls mix (l3_23 st cap a b s2 cp2 u v w) ⟨s_0, s_1, s_2, s_3, s_4, s_5, l_0, l_1, l_2, wakes_c, trivial⟩ rfl rfl
theorem c3_31 (st : Int) (cap : Nat) (a b d : Bd) (s2 : Int) (cp2 : Nat) (u : Bd) (hs : sP3 st cap a b d) (hl : lP1 s2 cp2 u) : CallsV Try.prog (.func 3) #[sv st (slw 1 0 3 cap), slw 2 0 8 cp2] [(1, wob [a, b, d]), (2, wrob s2 1 [u])] (rt (bb true)) [(2, wrob s2 1 [u]), (1, wob [a, b, d])] := by
  obtain ⟨s_0, s_1, s_2, s_3, s_4, s_5⟩ := hs
  obtain ⟨l_0, l_1, l_2⟩ := hl
  exact runF_calls mix (l3_31 st cap a b d s2 cp2 u) ⟨s_0, s_1, s_2, s_3, s_4, s_5, l_0, l_1, l_2, wakes_c, trivial⟩ rfl rfl
theorem c3_4x (st : Int) (cap : Nat) (a b d e : Bd) (of2 m2 cp2 : Nat) (c2 : Array Value) (hs : sP4 st cap a b d e) (hl : lPx of2 m2 cp2 c2) : CallsV Try.prog (.func 3) #[sv st (slw 1 0 4 cap), slw 2 of2 m2 cp2] [(1, wob [a, b, d, e]), (2, win of2 c2)] (rt (bb true)) [(2, win of2 c2), (1, wob [a, b, d, e])] := by
  obtain ⟨s_0, s_1, s_2, s_3, s_4, s_5⟩ := hs
  obtain ⟨l_0, l_1⟩ := hl
  exact runF_calls mix (l3_4x st cap a b d e of2 m2 cp2 c2) ⟨l_0, s_0, s_1, s_2, s_3, s_4, s_5, l_1, nil8 0, wakes_c, trivial⟩ rfl rfl
theorem c3_43 (st : Int) (cap : Nat) (a b d e : Bd) (s2 : Int) (cp2 : Nat) (u v w : Bd) (hs : sP4 st cap a b d e) (hl : lP3 s2 cp2 u v w) : CallsV Try.prog (.func 3) #[sv st (slw 1 0 4 cap), slw 2 0 20 cp2] [(1, wob [a, b, d, e]), (2, wrob s2 3 [u, v, w])] (rt (bb true)) [(2, wrob s2 3 [u, v, w]), (1, wob [a, b, d, e])] := by
  obtain ⟨s_0, s_1, s_2, s_3, s_4, s_5⟩ := hs
  obtain ⟨l_0, l_1, l_2⟩ := hl
  exact runF_calls mix (l3_43 st cap a b d e s2 cp2 u v w) ⟨s_0, s_1, s_2, s_3, s_4, s_5, l_0, l_1, l_2, wakes_c, trivial⟩ rfl rfl
end Go.Proofs.Ytmikjgflenbljaa

/- The law StateRows: what it answers, 4 of 4. -/
namespace Go.Proofs.Ytmikjgflenbljaa
open Go Go.RowKit
set_option linter.unusedSimpArgs false
set_option linter.unusedVariables false
set_option maxRecDepth 100000

theorem c3_x2 (st : Int) (off n' cap : Nat) (c : Array Value) (s2 : Int) (cp2 : Nat) (u v : Bd) (hs : sPx st off n' cap c) (hl : lP2 s2 cp2 u v) : CallsV Try.prog (.func 3) #[sv st (slw 1 off n' cap), slw 2 0 14 cp2] [(1, win off c), (2, wrob s2 2 [u, v])] (rt (bb true)) [(2, wrob s2 2 [u, v]), (1, win off c)] := by
  obtain ⟨s_0, s_1, s_2⟩ := hs
  obtain ⟨l_0, l_1, l_2⟩ := hl
  exact runF_calls mix (l3_x2 st off n' cap c s2 cp2 u v) ⟨s_0, s_1, s_2, l_0, l_1, l_2, wakes_c, trivial⟩ rfl rfl
theorem c3_00 (st : Int) : CallsV Try.prog (.func 3) #[sv st sl0, sl0] [] (rt (bb true)) [] := by
  exact runF_calls mix (l3_00 st) ⟨nil8 st, rright_nil st, nil10, nil8 0, wakes_c, trivial⟩ rfl rfl
theorem c3_04 (st : Int) (s2 : Int) (cp2 : Nat) (u v w x : Bd) (hl : lP4 s2 cp2 u v w x) : CallsV Try.prog (.func 3) #[sv st sl0, slw 2 0 26 cp2] [(2, wrob s2 4 [u, v, w, x])] (rt (bb true)) [(2, wrob s2 4 [u, v, w, x])] := by
  obtain ⟨l_0, l_1, l_2⟩ := hl
  exact runF_calls mix (l3_04 st s2 cp2 u v w x) ⟨nil8 st, rright_nil st, l_0, l_1, l_2, wakes_c, trivial⟩ rfl rfl
theorem c3_12 (st : Int) (cap : Nat) (a : Bd) (s2 : Int) (cp2 : Nat) (u v : Bd) (hs : sP1 st cap a) (hl : lP2 s2 cp2 u v) : CallsV Try.prog (.func 3) #[sv st (slw 1 0 1 cap), slw 2 0 14 cp2] [(1, wob [a]), (2, wrob s2 2 [u, v])] (rt (bb true)) [(2, wrob s2 2 [u, v]), (1, wob [a])] := by
  obtain ⟨s_0, s_1, s_2, s_3, s_4, s_5⟩ := hs
  obtain ⟨l_0, l_1, l_2⟩ := hl
  exact runF_calls mix (l3_12 st cap a s2 cp2 u v) ⟨s_0, s_1, s_2, s_3, s_4, s_5, l_0, l_1, l_2, wakes_c, trivial⟩ rfl rfl
theorem c3_20 (st : Int) (cap : Nat) (a b : Bd) (hs : sP2 st cap a b) : CallsV Try.prog (.func 3) #[sv st (slw 1 0 2 cap), sl0] [(1, wob [a, b])] (rt (bb true)) [(1, wob [a, b])] := by
  obtain ⟨s_0, s_1, s_2, s_3, s_4, s_5⟩ := hs
  exact runF_calls mix (l3_20 st cap a b) ⟨s_0, s_1, s_2, s_3, s_4, s_5, nil10, nil8 0, wakes_c, trivial⟩ rfl rfl
theorem c3_24 (st : Int) (cap : Nat) (a b : Bd) (s2 : Int) (cp2 : Nat) (u v w x : Bd) (hs : sP2 st cap a b) (hl : lP4 s2 cp2 u v w x) : CallsV Try.prog (.func 3) #[sv st (slw 1 0 2 cap), slw 2 0 26 cp2] [(1, wob [a, b]), (2, wrob s2 4 [u, v, w, x])] (rt (bb true)) [(2, wrob s2 4 [u, v, w, x]), (1, wob [a, b])] := by
  obtain ⟨s_0, s_1, s_2, s_3, s_4, s_5⟩ := hs
  obtain ⟨l_0, l_1, l_2⟩ := hl
  exact runF_calls mix (l3_24 st cap a b s2 cp2 u v w x) ⟨s_0, s_1, s_2, s_3, s_4, s_5, l_0, l_1, l_2, wakes_c, trivial⟩ rfl rfl
theorem c3_32 (st : Int) (cap : Nat) (a b d : Bd) (s2 : Int) (cp2 : Nat) (u v : Bd) (hs : sP3 st cap a b d) (hl : lP2 s2 cp2 u v) : CallsV Try.prog (.func 3) #[sv st (slw 1 0 3 cap), slw 2 0 14 cp2] [(1, wob [a, b, d]), (2, wrob s2 2 [u, v])] (rt (bb true)) [(2, wrob s2 2 [u, v]), (1, wob [a, b, d])] := by
  obtain ⟨s_0, s_1, s_2, s_3, s_4, s_5⟩ := hs
  obtain ⟨l_0, l_1, l_2⟩ := hl
  exact runF_calls mix (l3_32 st cap a b d s2 cp2 u v) ⟨s_0, s_1, s_2, s_3, s_4, s_5, l_0, l_1, l_2, wakes_c, trivial⟩ rfl rfl
theorem c3_40 (st : Int) (cap : Nat) (a b d e : Bd) (hs : sP4 st cap a b d e) : CallsV Try.prog (.func 3) #[sv st (slw 1 0 4 cap), sl0] [(1, wob [a, b, d, e])] (rt (bb true)) [(1, wob [a, b, d, e])] := by
  obtain ⟨s_0, s_1, s_2, s_3, s_4, s_5⟩ := hs
  exact runF_calls mix (l3_40 st cap a b d e) ⟨s_0, s_1, s_2, s_3, s_4, s_5, nil10, nil8 0, wakes_c, trivial⟩ rfl rfl
theorem c3_44 (st : Int) (cap : Nat) (a b d e : Bd) (s2 : Int) (cp2 : Nat) (u v w x : Bd) (hs : sP4 st cap a b d e) (hl : lP4 s2 cp2 u v w x) : CallsV Try.prog (.func 3) #[sv st (slw 1 0 4 cap), slw 2 0 26 cp2] [(1, wob [a, b, d, e]), (2, wrob s2 4 [u, v, w, x])] (rt (bb true)) [(2, wrob s2 4 [u, v, w, x]), (1, wob [a, b, d, e])] := by
  obtain ⟨s_0, s_1, s_2, s_3, s_4, s_5⟩ := hs
  obtain ⟨l_0, l_1, l_2⟩ := hl
  exact runF_calls mix (l3_44 st cap a b d e s2 cp2 u v w x) ⟨s_0, s_1, s_2, s_3, s_4, s_5, l_0, l_1, l_2, wakes_c, trivial⟩ rfl rfl
end Go.Proofs.Ytmikjgflenbljaa
