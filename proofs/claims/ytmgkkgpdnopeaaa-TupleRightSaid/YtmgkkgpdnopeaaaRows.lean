/-
  No cell of these rows narrows 'for every input' (looked for: loops, veiled, ifaces, maps, wideKeys, modest, calm, conditions, laid).
  DERIVED. THE GIVEN ROWS OF THIS SEAT. 4 by the template 'for every input the law returns true; each argument reads behind the call as it read before'; 0 by the template 'total and deterministic' (their statements: YtmgkkgpdnopeaaaTotals.lean).
  GIVEN WITH THE SEED: the statements are not yours to turn. If you find one false, say at which input.
  Laid BY PROGRAM, IN A SANDBOX (cutbox-rows.mjs): the forced cells as the released guide's own fill.sh prints them over the translation 4d5a07842c6c6efd… (all of the seat's roots in one cut). By AI agents, Wed Nov 11 2026. No macro, syntax, notation, axiom, sorry.
-/
import Derived.Test.YtmgkkgpdnopeaaaChecked
import GoSem.Claim
import GoSem.ClaimJoined
import GoSem.ClaimMapViews
import Derived.JoinedTies
import Derived.KernelRfl
namespace Go.Proofs.Ytmgkkgpdnopeaaa
/- THE CELL 'sum', in the pinned program and in every row, IS THE sha256 OF THE DUMP (.gsa) THAT YtmgkkgpdnopeaaaProg.lean LOADS. Nothing in Lean hashes anything: it is a label: what it is worth is what the hold of that sum in a sandbox is worth. -/
noncomputable def Try.pinned : Pinned := { name := "ytmgkkgpdnopeaaa", sum := "4d5a07842c6c6efd72f0d3b2fa0c8cf6b16566f65b5332e3afe7dc056254cae4", checked := Try.checked }
namespace Rows
def none {H : Type} : Left H := { results := [], args := [] }

/-- 'casematelaw09.TupleRight': WHATEVER THE INPUT: true; the input reads as it did. -/
def tupleRightSpec : ChangeSpec := { name := "tupleRight", fn := fun _ => fun
  | [d1, d2, d3, d4] => { results := [.lit (.bool true)], args := [d1, d2, d3, d4] }
  | _ => none }
def tupleRightRow : OpenClaim := { program := "ytmgkkgpdnopeaaa", sum := "4d5a07842c6c6efd72f0d3b2fa0c8cf6b16566f65b5332e3afe7dc056254cae4", func := "casemate/casematelaw09.TupleRight", spec := "tupleRight", inPlace := ["internal/bytealg.Compare"], apart := false }
def TupleRightSaid : Prop := tupleRightRow.holds Try.pinned (OpenSpec.ofChange tupleRightSpec)

/-- ITS FALSE NEIGHBOUR: 'it returns false'. Refute it at one input. -/
def tupleRightWrong : ChangeSpec := { name := "tupleRight", fn := fun _ => fun
  | [d1, d2, d3, d4] => { results := [.lit (.bool false)], args := [d1, d2, d3, d4] }
  | _ => none }
def TupleRightWrongFalsely : Prop := tupleRightRow.holds Try.pinned (OpenSpec.ofChange tupleRightWrong)

/-- 'casematelaw09.TupleTurns': WHATEVER THE INPUT: true; the input reads as it did. -/
def tupleTurnsSpec : ChangeSpec := { name := "tupleTurns", fn := fun _ => fun
  | [d1, d2, d3, d4, d5] => { results := [.lit (.bool true)], args := [d1, d2, d3, d4, d5] }
  | _ => none }
def tupleTurnsRow : OpenClaim := { program := "ytmgkkgpdnopeaaa", sum := "4d5a07842c6c6efd72f0d3b2fa0c8cf6b16566f65b5332e3afe7dc056254cae4", func := "casemate/casematelaw09.TupleTurns", spec := "tupleTurns", apart := false }
def TupleTurnsSaid : Prop := tupleTurnsRow.holds Try.pinned (OpenSpec.ofChange tupleTurnsSpec)

/-- ITS FALSE NEIGHBOUR: 'it returns false'. Refute it at one input. -/
def tupleTurnsWrong : ChangeSpec := { name := "tupleTurns", fn := fun _ => fun
  | [d1, d2, d3, d4, d5] => { results := [.lit (.bool false)], args := [d1, d2, d3, d4, d5] }
  | _ => none }
def TupleTurnsWrongFalsely : Prop := tupleTurnsRow.holds Try.pinned (OpenSpec.ofChange tupleTurnsWrong)

/-- 'casematelaw09.TupleOrder': WHATEVER THE INPUT: true; the input reads as it did. -/
def tupleOrderSpec : ChangeSpec := { name := "tupleOrder", fn := fun _ => fun
  | [d1, d2, d3] => { results := [.lit (.bool true)], args := [d1, d2, d3] }
  | _ => none }
def tupleOrderRow : OpenClaim := { program := "ytmgkkgpdnopeaaa", sum := "4d5a07842c6c6efd72f0d3b2fa0c8cf6b16566f65b5332e3afe7dc056254cae4", func := "casemate/casematelaw09.TupleOrder", spec := "tupleOrder", inPlace := ["internal/bytealg.Compare"], apart := false }
def TupleOrderSaid : Prop := tupleOrderRow.holds Try.pinned (OpenSpec.ofChange tupleOrderSpec)

/-- ITS FALSE NEIGHBOUR: 'it returns false'. Refute it at one input. -/
def tupleOrderWrong : ChangeSpec := { name := "tupleOrder", fn := fun _ => fun
  | [d1, d2, d3] => { results := [.lit (.bool false)], args := [d1, d2, d3] }
  | _ => none }
def TupleOrderWrongFalsely : Prop := tupleOrderRow.holds Try.pinned (OpenSpec.ofChange tupleOrderWrong)

/-- 'casematelaw09.TuplePorts': WHATEVER THE INPUT: true; the input reads as it did. -/
def tuplePortsSpec : ChangeSpec := { name := "tuplePorts", fn := fun _ => fun
  | [d1, d2, d3, d4, d5, d6] => { results := [.lit (.bool true)], args := [d1, d2, d3, d4, d5, d6] }
  | _ => none }
def tuplePortsRow : OpenClaim := { program := "ytmgkkgpdnopeaaa", sum := "4d5a07842c6c6efd72f0d3b2fa0c8cf6b16566f65b5332e3afe7dc056254cae4", func := "casemate/casematelaw09.TuplePorts", spec := "tuplePorts", apart := false }
def TuplePortsSaid : Prop := tuplePortsRow.holds Try.pinned (OpenSpec.ofChange tuplePortsSpec)

/-- ITS FALSE NEIGHBOUR: 'it returns false'. Refute it at one input. -/
def tuplePortsWrong : ChangeSpec := { name := "tuplePorts", fn := fun _ => fun
  | [d1, d2, d3, d4, d5, d6] => { results := [.lit (.bool false)], args := [d1, d2, d3, d4, d5, d6] }
  | _ => none }
def TuplePortsWrongFalsely : Prop := tuplePortsRow.holds Try.pinned (OpenSpec.ofChange tuplePortsWrong)

/- THE SECOND FORM. 'bulk': how many values and letters a reading holds, each counted each time it is reached (what is shared counts as often as it is met; a slice's spare places count too). A statement '..UptoSaid' is the law's where the arguments, and the package variables that the reading takes, are together of bulk at most 1048576: NARROWER than '..Said'. Prove '..Said' where nothing that the law and all that it calls make is longer than what came in: it says more and counts as full. Else prove '..UptoSaid'. A law counts once. -/
mutual
def uptoBulk {H : Type} : DataW H → Nat
  | .lit (.string bytes) => bytes.length + 1
  | .lit _ => 1
  | .nil => 1
  | .ptr d => uptoBulk d + 1
  | .slice elems spare => uptoBulkAll elems + uptoBulkAll spare + 1
  | .agg parts => uptoBulkAll parts + 1
  | .iface _ d => uptoBulk d + 1
  | .map entries => uptoBulkEntries entries + 1
  | .held _ => 1
def uptoBulkAll {H : Type} : List (DataW H) → Nat
  | [] => 0
  | d :: r => uptoBulk d + uptoBulkAll r
def uptoBulkEntries {H : Type} : List (Lit × DataW H) → Nat
  | [] => 0
  | x :: r => uptoBulkEntry x + uptoBulkEntries r
def uptoBulkEntry {H : Type} : Lit × DataW H → Nat
  | (.string bytes, d) => bytes.length + uptoBulk d + 1
  | (_, d) => uptoBulk d + 1
 end
def uptoSmall : (H : Type) → List (DataW H) → Bool := fun _ ds => decide (uptoBulkAll ds ≤ 1048576)
def OpenSpec.upto (s : _root_.Go.ChangeSpec) : _root_.Go.OpenSpec := { _root_.Go.OpenSpec.ofChange s with cond := some uptoSmall }

/-- 'casematelaw09.TupleRight', WHERE WHAT IT READS IS OF BULK AT MOST 1048576: true; the input reads as it did. -/
def tupleRightUptoRow : OpenClaim := { program := "ytmgkkgpdnopeaaa", sum := "4d5a07842c6c6efd72f0d3b2fa0c8cf6b16566f65b5332e3afe7dc056254cae4", func := "casemate/casematelaw09.TupleRight", spec := "tupleRight", inPlace := ["internal/bytealg.Compare"], apart := false, narrowed := true }
def TupleRightUptoSaid : Prop := tupleRightUptoRow.holds Try.pinned (OpenSpec.upto tupleRightSpec)

/-- 'casematelaw09.TupleTurns', WHERE WHAT IT READS IS OF BULK AT MOST 1048576: true; the input reads as it did. -/
def tupleTurnsUptoRow : OpenClaim := { program := "ytmgkkgpdnopeaaa", sum := "4d5a07842c6c6efd72f0d3b2fa0c8cf6b16566f65b5332e3afe7dc056254cae4", func := "casemate/casematelaw09.TupleTurns", spec := "tupleTurns", apart := false, narrowed := true }
def TupleTurnsUptoSaid : Prop := tupleTurnsUptoRow.holds Try.pinned (OpenSpec.upto tupleTurnsSpec)

/-- 'casematelaw09.TupleOrder', WHERE WHAT IT READS IS OF BULK AT MOST 1048576: true; the input reads as it did. -/
def tupleOrderUptoRow : OpenClaim := { program := "ytmgkkgpdnopeaaa", sum := "4d5a07842c6c6efd72f0d3b2fa0c8cf6b16566f65b5332e3afe7dc056254cae4", func := "casemate/casematelaw09.TupleOrder", spec := "tupleOrder", inPlace := ["internal/bytealg.Compare"], apart := false, narrowed := true }
def TupleOrderUptoSaid : Prop := tupleOrderUptoRow.holds Try.pinned (OpenSpec.upto tupleOrderSpec)

/-- 'casematelaw09.TuplePorts', WHERE WHAT IT READS IS OF BULK AT MOST 1048576: true; the input reads as it did. -/
def tuplePortsUptoRow : OpenClaim := { program := "ytmgkkgpdnopeaaa", sum := "4d5a07842c6c6efd72f0d3b2fa0c8cf6b16566f65b5332e3afe7dc056254cae4", func := "casemate/casematelaw09.TuplePorts", spec := "tuplePorts", apart := false, narrowed := true }
def TuplePortsUptoSaid : Prop := tuplePortsUptoRow.holds Try.pinned (OpenSpec.upto tuplePortsSpec)

end Rows
end Go.Proofs.Ytmgkkgpdnopeaaa
