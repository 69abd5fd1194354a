/- What package route's functions owe, as propositions. -/
import Derived.Test.YtacohanlpgkdeaaRouteR2
namespace Go.Proofs.Ytacohanlpgkdeaa
open Go.ChangeShapes Go.WideShapes Go.ChangeAt Go.RowKit
set_option linter.unusedVariables false
set_option linter.unusedSimpArgs false

def U32 (n : Int) : Prop := 0 ≤ n ∧ n ≤ 4294967295
def InC13 : Prop := ∀ (addr net bits : Int), U32 addr → U32 net → ∀ (w : World) (q : Bool), inN addr net bits = q → Calls Try.prog 17 #[.int .u32 addr, .int .u32 net, .int .i64 bits] w fun e w' => e = .returned (.bool q) ∧ Below w.heap.size w w'
/-- the first hundred. -/
theorem RtsAt.first100 {w : World} {L : List Rt} {A : Option Addr} {c : Nat} (h : RtsAt w L A c) : ∃ M : List Rt, L.take 100 = M ∧ M.length ≤ 100 ∧ RtsAt w M A c ∧ (if (100 : Int) < (L.length : Int) then (100 : Int) else (L.length : Int)) = (M.length : Int) ∧ (M.length : Int) ≤ (c : Int) := by
  have hlc := h.len
  have hl : (L.take 100).length = min 100 L.length := List.length_take
  refine ⟨_, rfl, by omega, h.take 100, ?_, by omega⟩
  split <;> omega
abbrev rA1 : Rt := ⟨167772160, 8, 0, 1500⟩
abbrev rA2 : Rt := ⟨167837696, 16, 2, 1500⟩
theorem awake_facts13 : findR [rA1, rA2] 167838211 = (rA2, true) ∧ zoneR [rA1, rA2] 167903747 = 0 ∧ zoneR [rA1, rA2] 1 = -1 ∧ rightR [rA1, rA2] = true := ⟨rfl, rfl, rfl, rfl⟩
end Go.Proofs.Ytacohanlpgkdeaa
