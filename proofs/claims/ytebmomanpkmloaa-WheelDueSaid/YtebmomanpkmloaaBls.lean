/- Rows of bools. -/
import Derived.Test.YtebmomanpkmloaaFlat
namespace Go.Proofs.Ytebmomanpkmloaa
open Go.ChangeShapes Go.WideShapes Go.ChangeAt Go.RowKit
set_option linter.unusedVariables false
set_option linter.unusedSimpArgs false

/-- bools in a row. -/
structure BlsAt (w : World) (l : List Bool) (A : Option Addr) (c : Nat) : Prop where
  len : l.length ≤ c
  cap : c ≤ 9223372036854775807
  nil : A = none → c = 0
  rd : RdC w A (l.map (fun b => Value.bool b))
theorem BlsAt.keep {w w' : World} {l : List Bool} {A : Option Addr} {c : Nat} (h : BlsAt w l A c) (y : Below w.heap.size w w') : BlsAt w' l A c := ⟨h.len, h.cap, h.nil, h.rd.keep y⟩
theorem BlsAt.cell {w : World} {l : List Bool} {A : Option Addr} {c : Nat} (h : BlsAt w l A c) {i : Nat} (hi : i < l.length) : ∃ ad, A = some ad ∧ ∀ Y, Below w.heap.size w Y → Y.cell? (ad.add i) = some (.bool l[i]) := by
  rcases h.rd with h0 | ⟨ad, e, hc⟩
  · have := congrArg List.length h0
    simp at this
    subst this
    simp at hi
  · refine ⟨ad, e, fun Y y => ?_⟩
    have h2 := hc i (.bool l[i]) (by simp [hi])
    exact (y.cell (World.block_lt_of_cell? w _ h2)).trans h2
end Go.Proofs.Ytebmomanpkmloaa
