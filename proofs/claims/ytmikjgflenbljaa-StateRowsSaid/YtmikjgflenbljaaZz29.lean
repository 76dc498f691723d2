/- Texts of the seat, joined. -/
import Derived.Test.YtmikjgflenbljaaZz18
/- Rows, in blocks. -/
namespace Go.Proofs.Ytmikjgflenbljaa
open Go Go.RowKit

/-- Rows: of our own, of our own with a nought behind, in a window. -/
def rob (st m : Int) (L : List Bd) : Obj := .cells ⟨ii st :: ii m :: L.flatMap fl6⟩ 3 (0, 0)
def lob (st m : Int) (L : List Bd) : Obj := .cells ⟨ii st :: ii m :: (L.flatMap fl6 ++ [ii 0])⟩ 3 (1, 1)
def wrob (st m : Int) (L : List Bd) : Obj := .cells ⟨ii st :: ii m :: L.flatMap fl6⟩ 3 (2, 0)
end Go.Proofs.Ytmikjgflenbljaa
