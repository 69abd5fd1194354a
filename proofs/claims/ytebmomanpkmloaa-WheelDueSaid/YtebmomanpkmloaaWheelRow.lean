/- The first ones of a row of numbers. -/
import Derived.Test.YtebmomanpkmloaaWheelL0
import Derived.Test.YtebmomanpkmloaaBls
namespace Go.Proofs.Ytebmomanpkmloaa
open Go.ChangeShapes Go.WideShapes Go.ChangeAt Go.RowKit
set_option linter.unusedVariables false
set_option linter.unusedSimpArgs false

theorem InsAt.first200 {w : World} {L : List Int} {A : Option Addr} {c : Nat} (h : InsAt .u16 w L A c) (hr : ∀ n ∈ L, 0 ≤ n ∧ n ≤ 65535) : ∃ M : List Int, L.take 200 = M ∧ M.length ≤ 200 ∧ (∀ n ∈ M, 0 ≤ n ∧ n ≤ 65535) ∧ InsAt .u16 w M A c ∧ (if (200 : Int) < (L.length : Int) then (200 : Int) else (L.length : Int)) = (M.length : Int) ∧ (M.length : Int) ≤ (c : Int) := by
  have hlc := h.len
  have hl : (L.take 200).length = min 200 L.length := List.length_take
  refine ⟨_, rfl, by omega, fun n hn => hr n (List.mem_of_mem_take hn), h.take 200, ?_, by omega⟩
  split <;> omega
end Go.Proofs.Ytebmomanpkmloaa
