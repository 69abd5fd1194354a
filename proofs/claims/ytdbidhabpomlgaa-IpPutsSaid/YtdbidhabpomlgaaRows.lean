/-
  No cell of these rows narrows 'for every input' (looked for: loops, veiled, ifaces, maps, wideKeys, modest, calm, conditions, laid).
  DERIVED. THE GIVEN ROWS OF THIS SEAT. 5 by the template 'for every input the law returns true; each argument reads behind the call as it read before'; 0 by the template 'total and deterministic' (their statements: YtdbidhabpomlgaaTotals.lean).
  GIVEN WITH THE SEED: the statements are not yours to turn. If you find one false, say at which input.
  Laid BY PROGRAM, IN A SANDBOX (cutbox-rows.mjs): the forced cells as the released guide's own fill.sh prints them over the translation 6590dbc311f19730… (all of the seat's roots in one cut). By AI agents, Wed Nov 11 2026. No macro, syntax, notation, axiom, sorry.
-/
import Derived.Test.YtdbidhabpomlgaaChecked
import GoSem.Claim
import GoSem.ClaimJoined
import GoSem.ClaimMapViews
import Derived.JoinedTies
import Derived.KernelRfl
namespace Go.Proofs.Ytdbidhabpomlgaa
/- THE CELL 'sum', in the pinned program and in every row, IS THE sha256 OF THE DUMP (.gsa) THAT YtdbidhabpomlgaaProg.lean LOADS. Nothing in Lean hashes anything: it is a label: what it is worth is what the hold of that sum in a sandbox is worth. -/
noncomputable def Try.pinned : Pinned := { name := "ytdbidhabpomlgaa", sum := "6590dbc311f19730fbd55981772cf16d85d75578af6d3e96cf6ca1ba8008f93c", checked := Try.checked }
namespace Rows
def none {H : Type} : Left H := { results := [], args := [] }

/-- 'casematelaw03.IpPuts': WHATEVER THE INPUT: true; the input reads as it did. -/
def ipPutsSpec : ChangeSpec := { name := "ipPuts", fn := fun _ => fun
  | [d1, d2] => { results := [.lit (.bool true)], args := [d1, d2] }
  | _ => none }
def ipPutsRow : OpenClaim := { program := "ytdbidhabpomlgaa", sum := "6590dbc311f19730fbd55981772cf16d85d75578af6d3e96cf6ca1ba8008f93c", func := "casemate/casematelaw03.IpPuts", spec := "ipPuts", apart := false }
def IpPutsSaid : Prop := ipPutsRow.holds Try.pinned (OpenSpec.ofChange ipPutsSpec)

/-- ITS FALSE NEIGHBOUR: 'it returns false'. Refute it at one input. -/
def ipPutsWrong : ChangeSpec := { name := "ipPuts", fn := fun _ => fun
  | [d1, d2] => { results := [.lit (.bool false)], args := [d1, d2] }
  | _ => none }
def IpPutsWrongFalsely : Prop := ipPutsRow.holds Try.pinned (OpenSpec.ofChange ipPutsWrong)

/-- 'casematelaw03.IpReads': WHATEVER THE INPUT: true; the input reads as it did. -/
def ipReadsSpec : ChangeSpec := { name := "ipReads", fn := fun _ => fun
  | [d] => { results := [.lit (.bool true)], args := [d] }
  | _ => none }
def ipReadsRow : OpenClaim := { program := "ytdbidhabpomlgaa", sum := "6590dbc311f19730fbd55981772cf16d85d75578af6d3e96cf6ca1ba8008f93c", func := "casemate/casematelaw03.IpReads", spec := "ipReads", apart := false }
def IpReadsSaid : Prop := ipReadsRow.holds Try.pinned (OpenSpec.ofChange ipReadsSpec)

/-- ITS FALSE NEIGHBOUR: 'it returns false'. Refute it at one input. -/
def ipReadsWrong : ChangeSpec := { name := "ipReads", fn := fun _ => fun
  | [d] => { results := [.lit (.bool false)], args := [d] }
  | _ => none }
def IpReadsWrongFalsely : Prop := ipReadsRow.holds Try.pinned (OpenSpec.ofChange ipReadsWrong)

/-- 'casematelaw03.IpBack': WHATEVER THE INPUT: true; the input reads as it did. -/
def ipBackSpec : ChangeSpec := { name := "ipBack", fn := fun _ => fun
  | [d1, d2] => { results := [.lit (.bool true)], args := [d1, d2] }
  | _ => none }
def ipBackRow : OpenClaim := { program := "ytdbidhabpomlgaa", sum := "6590dbc311f19730fbd55981772cf16d85d75578af6d3e96cf6ca1ba8008f93c", func := "casemate/casematelaw03.IpBack", spec := "ipBack", apart := false }
def IpBackSaid : Prop := ipBackRow.holds Try.pinned (OpenSpec.ofChange ipBackSpec)

/-- ITS FALSE NEIGHBOUR: 'it returns false'. Refute it at one input. -/
def ipBackWrong : ChangeSpec := { name := "ipBack", fn := fun _ => fun
  | [d1, d2] => { results := [.lit (.bool false)], args := [d1, d2] }
  | _ => none }
def IpBackWrongFalsely : Prop := ipBackRow.holds Try.pinned (OpenSpec.ofChange ipBackWrong)

/-- 'casematelaw03.IpSpoilt': WHATEVER THE INPUT: true; the input reads as it did. -/
def ipSpoiltSpec : ChangeSpec := { name := "ipSpoilt", fn := fun _ => fun
  | [d1, d2, d3] => { results := [.lit (.bool true)], args := [d1, d2, d3] }
  | _ => none }
def ipSpoiltRow : OpenClaim := { program := "ytdbidhabpomlgaa", sum := "6590dbc311f19730fbd55981772cf16d85d75578af6d3e96cf6ca1ba8008f93c", func := "casemate/casematelaw03.IpSpoilt", spec := "ipSpoilt", apart := false }
def IpSpoiltSaid : Prop := ipSpoiltRow.holds Try.pinned (OpenSpec.ofChange ipSpoiltSpec)

/-- ITS FALSE NEIGHBOUR: 'it returns false'. Refute it at one input. -/
def ipSpoiltWrong : ChangeSpec := { name := "ipSpoilt", fn := fun _ => fun
  | [d1, d2, d3] => { results := [.lit (.bool false)], args := [d1, d2, d3] }
  | _ => none }
def IpSpoiltWrongFalsely : Prop := ipSpoiltRow.holds Try.pinned (OpenSpec.ofChange ipSpoiltWrong)

/-- 'casematelaw03.IpLaid': WHATEVER THE INPUT: true; the input reads as it did. -/
def ipLaidSpec : ChangeSpec := { name := "ipLaid", fn := fun _ => fun
  | [d] => { results := [.lit (.bool true)], args := [d] }
  | _ => none }
def ipLaidRow : OpenClaim := { program := "ytdbidhabpomlgaa", sum := "6590dbc311f19730fbd55981772cf16d85d75578af6d3e96cf6ca1ba8008f93c", func := "casemate/casematelaw03.IpLaid", spec := "ipLaid", apart := false }
def IpLaidSaid : Prop := ipLaidRow.holds Try.pinned (OpenSpec.ofChange ipLaidSpec)

/-- ITS FALSE NEIGHBOUR: 'it returns false'. Refute it at one input. -/
def ipLaidWrong : ChangeSpec := { name := "ipLaid", fn := fun _ => fun
  | [d] => { results := [.lit (.bool false)], args := [d] }
  | _ => none }
def IpLaidWrongFalsely : Prop := ipLaidRow.holds Try.pinned (OpenSpec.ofChange ipLaidWrong)

/- THE SECOND FORM. 'bulk': how many values and letters a reading holds, each counted each time it is reached (what is shared counts as often as it is met; a slice's spare places count too). A statement '..UptoSaid' is the law's where the arguments, and the package variables that the reading takes, are together of bulk at most 1048576: NARROWER than '..Said'. Prove '..Said' where nothing that the law and all that it calls make is longer than what came in: it says more and counts as full. Else prove '..UptoSaid'. A law counts once. -/
mutual
def uptoBulk {H : Type} : DataW H → Nat
  | .lit (.string bytes) => bytes.length + 1
  | .lit _ => 1
  | .nil => 1
  | .ptr d => uptoBulk d + 1
  | .slice elems spare => uptoBulkAll elems + uptoBulkAll spare + 1
  | .agg parts => uptoBulkAll parts + 1
  | .iface _ d => uptoBulk d + 1
  | .map entries => uptoBulkEntries entries + 1
  | .held _ => 1
def uptoBulkAll {H : Type} : List (DataW H) → Nat
  | [] => 0
  | d :: r => uptoBulk d + uptoBulkAll r
def uptoBulkEntries {H : Type} : List (Lit × DataW H) → Nat
  | [] => 0
  | x :: r => uptoBulkEntry x + uptoBulkEntries r
def uptoBulkEntry {H : Type} : Lit × DataW H → Nat
  | (.string bytes, d) => bytes.length + uptoBulk d + 1
  | (_, d) => uptoBulk d + 1
 end
def uptoSmall : (H : Type) → List (DataW H) → Bool := fun _ ds => decide (uptoBulkAll ds ≤ 1048576)
def OpenSpec.upto (s : _root_.Go.ChangeSpec) : _root_.Go.OpenSpec := { _root_.Go.OpenSpec.ofChange s with cond := some uptoSmall }

/-- 'casematelaw03.IpPuts', WHERE WHAT IT READS IS OF BULK AT MOST 1048576: true; the input reads as it did. -/
def ipPutsUptoRow : OpenClaim := { program := "ytdbidhabpomlgaa", sum := "6590dbc311f19730fbd55981772cf16d85d75578af6d3e96cf6ca1ba8008f93c", func := "casemate/casematelaw03.IpPuts", spec := "ipPuts", apart := false, narrowed := true }
def IpPutsUptoSaid : Prop := ipPutsUptoRow.holds Try.pinned (OpenSpec.upto ipPutsSpec)

/-- 'casematelaw03.IpReads', WHERE WHAT IT READS IS OF BULK AT MOST 1048576: true; the input reads as it did. -/
def ipReadsUptoRow : OpenClaim := { program := "ytdbidhabpomlgaa", sum := "6590dbc311f19730fbd55981772cf16d85d75578af6d3e96cf6ca1ba8008f93c", func := "casemate/casematelaw03.IpReads", spec := "ipReads", apart := false, narrowed := true }
def IpReadsUptoSaid : Prop := ipReadsUptoRow.holds Try.pinned (OpenSpec.upto ipReadsSpec)

/-- 'casematelaw03.IpBack', WHERE WHAT IT READS IS OF BULK AT MOST 1048576: true; the input reads as it did. -/
def ipBackUptoRow : OpenClaim := { program := "ytdbidhabpomlgaa", sum := "6590dbc311f19730fbd55981772cf16d85d75578af6d3e96cf6ca1ba8008f93c", func := "casemate/casematelaw03.IpBack", spec := "ipBack", apart := false, narrowed := true }
def IpBackUptoSaid : Prop := ipBackUptoRow.holds Try.pinned (OpenSpec.upto ipBackSpec)

/-- 'casematelaw03.IpSpoilt', WHERE WHAT IT READS IS OF BULK AT MOST 1048576: true; the input reads as it did. -/
def ipSpoiltUptoRow : OpenClaim := { program := "ytdbidhabpomlgaa", sum := "6590dbc311f19730fbd55981772cf16d85d75578af6d3e96cf6ca1ba8008f93c", func := "casemate/casematelaw03.IpSpoilt", spec := "ipSpoilt", apart := false, narrowed := true }
def IpSpoiltUptoSaid : Prop := ipSpoiltUptoRow.holds Try.pinned (OpenSpec.upto ipSpoiltSpec)

/-- 'casematelaw03.IpLaid', WHERE WHAT IT READS IS OF BULK AT MOST 1048576: true; the input reads as it did. -/
def ipLaidUptoRow : OpenClaim := { program := "ytdbidhabpomlgaa", sum := "6590dbc311f19730fbd55981772cf16d85d75578af6d3e96cf6ca1ba8008f93c", func := "casemate/casematelaw03.IpLaid", spec := "ipLaid", apart := false, narrowed := true }
def IpLaidUptoSaid : Prop := ipLaidUptoRow.holds Try.pinned (OpenSpec.upto ipLaidSpec)

end Rows
end Go.Proofs.Ytdbidhabpomlgaa
