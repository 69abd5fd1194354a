/-
  No cell of these rows narrows 'for every input' (looked for: loops, veiled, ifaces, maps, wideKeys, modest, calm, conditions, laid).
  DERIVED. THE GIVEN ROWS OF THIS SEAT. 5 by the template 'for every input the law returns true; each argument reads behind the call as it read before'; 0 by the template 'total and deterministic' (their statements: YtghgemmbbedopaaTotals.lean).
  GIVEN WITH THE SEED: the statements are not yours to turn. If you find one false, say at which input.
  Laid BY PROGRAM, IN A SANDBOX (cutbox-rows.mjs): the forced cells as the released guide's own fill.sh prints them over the translation 6b810fa7e3308404… (all of the seat's roots in one cut). By AI agents, Wed Nov 11 2026. No macro, syntax, notation, axiom, sorry.
-/
import Derived.Test.YtghgemmbbedopaaChecked
import GoSem.Claim
import GoSem.ClaimJoined
import GoSem.ClaimMapViews
import Derived.JoinedTies
import Derived.KernelRfl
namespace Go.Proofs.Ytghgemmbbedopaa
/- THE CELL 'sum', in the pinned program and in every row, IS THE sha256 OF THE DUMP (.gsa) THAT YtghgemmbbedopaaProg.lean LOADS. Nothing in Lean hashes anything: it is a label: what it is worth is what the hold of that sum in a sandbox is worth. -/
noncomputable def Try.pinned : Pinned := { name := "ytghgemmbbedopaa", sum := "6b810fa7e330840432188d207187bc8ae2c3c5ecc779f8642603be705a7e2346", checked := Try.checked }
namespace Rows
def none {H : Type} : Left H := { results := [], args := [] }

/-- 'casematelaw04.TcpPuts': WHATEVER THE INPUT: true; the input reads as it did. -/
def tcpPutsSpec : ChangeSpec := { name := "tcpPuts", fn := fun _ => fun
  | [d1, d2, d3, d4, d5] => { results := [.lit (.bool true)], args := [d1, d2, d3, d4, d5] }
  | _ => none }
def tcpPutsRow : OpenClaim := { program := "ytghgemmbbedopaa", sum := "6b810fa7e330840432188d207187bc8ae2c3c5ecc779f8642603be705a7e2346", func := "casemate/casematelaw04.TcpPuts", spec := "tcpPuts", unfollowed := true, recurses := true, apart := false }
def TcpPutsSaid : Prop := tcpPutsRow.holds Try.pinned (OpenSpec.ofChange tcpPutsSpec)

/-- ITS FALSE NEIGHBOUR: 'it returns false'. Refute it at one input. -/
def tcpPutsWrong : ChangeSpec := { name := "tcpPuts", fn := fun _ => fun
  | [d1, d2, d3, d4, d5] => { results := [.lit (.bool false)], args := [d1, d2, d3, d4, d5] }
  | _ => none }
def TcpPutsWrongFalsely : Prop := tcpPutsRow.holds Try.pinned (OpenSpec.ofChange tcpPutsWrong)

/-- 'casematelaw04.TcpReads': WHATEVER THE INPUT: true; the input reads as it did. -/
def tcpReadsSpec : ChangeSpec := { name := "tcpReads", fn := fun _ => fun
  | [d1, d2, d3] => { results := [.lit (.bool true)], args := [d1, d2, d3] }
  | _ => none }
def tcpReadsRow : OpenClaim := { program := "ytghgemmbbedopaa", sum := "6b810fa7e330840432188d207187bc8ae2c3c5ecc779f8642603be705a7e2346", func := "casemate/casematelaw04.TcpReads", spec := "tcpReads", apart := false }
def TcpReadsSaid : Prop := tcpReadsRow.holds Try.pinned (OpenSpec.ofChange tcpReadsSpec)

/-- ITS FALSE NEIGHBOUR: 'it returns false'. Refute it at one input. -/
def tcpReadsWrong : ChangeSpec := { name := "tcpReads", fn := fun _ => fun
  | [d1, d2, d3] => { results := [.lit (.bool false)], args := [d1, d2, d3] }
  | _ => none }
def TcpReadsWrongFalsely : Prop := tcpReadsRow.holds Try.pinned (OpenSpec.ofChange tcpReadsWrong)

/-- 'casematelaw04.TcpBack': WHATEVER THE INPUT: true; the input reads as it did. -/
def tcpBackSpec : ChangeSpec := { name := "tcpBack", fn := fun _ => fun
  | [d1, d2, d3, d4] => { results := [.lit (.bool true)], args := [d1, d2, d3, d4] }
  | _ => none }
def tcpBackRow : OpenClaim := { program := "ytghgemmbbedopaa", sum := "6b810fa7e330840432188d207187bc8ae2c3c5ecc779f8642603be705a7e2346", func := "casemate/casematelaw04.TcpBack", spec := "tcpBack", unfollowed := true, recurses := true, apart := false }
def TcpBackSaid : Prop := tcpBackRow.holds Try.pinned (OpenSpec.ofChange tcpBackSpec)

/-- ITS FALSE NEIGHBOUR: 'it returns false'. Refute it at one input. -/
def tcpBackWrong : ChangeSpec := { name := "tcpBack", fn := fun _ => fun
  | [d1, d2, d3, d4] => { results := [.lit (.bool false)], args := [d1, d2, d3, d4] }
  | _ => none }
def TcpBackWrongFalsely : Prop := tcpBackRow.holds Try.pinned (OpenSpec.ofChange tcpBackWrong)

/-- 'casematelaw04.TcpSpoilt': WHATEVER THE INPUT: true; the input reads as it did. -/
def tcpSpoiltSpec : ChangeSpec := { name := "tcpSpoilt", fn := fun _ => fun
  | [d1, d2, d3, d4, d5] => { results := [.lit (.bool true)], args := [d1, d2, d3, d4, d5] }
  | _ => none }
def tcpSpoiltRow : OpenClaim := { program := "ytghgemmbbedopaa", sum := "6b810fa7e330840432188d207187bc8ae2c3c5ecc779f8642603be705a7e2346", func := "casemate/casematelaw04.TcpSpoilt", spec := "tcpSpoilt", apart := false }
def TcpSpoiltSaid : Prop := tcpSpoiltRow.holds Try.pinned (OpenSpec.ofChange tcpSpoiltSpec)

/-- ITS FALSE NEIGHBOUR: 'it returns false'. Refute it at one input. -/
def tcpSpoiltWrong : ChangeSpec := { name := "tcpSpoilt", fn := fun _ => fun
  | [d1, d2, d3, d4, d5] => { results := [.lit (.bool false)], args := [d1, d2, d3, d4, d5] }
  | _ => none }
def TcpSpoiltWrongFalsely : Prop := tcpSpoiltRow.holds Try.pinned (OpenSpec.ofChange tcpSpoiltWrong)

/-- 'casematelaw04.TcpLaid': WHATEVER THE INPUT: true; the input reads as it did. -/
def tcpLaidSpec : ChangeSpec := { name := "tcpLaid", fn := fun _ => fun
  | [d1, d2, d3] => { results := [.lit (.bool true)], args := [d1, d2, d3] }
  | _ => none }
def tcpLaidRow : OpenClaim := { program := "ytghgemmbbedopaa", sum := "6b810fa7e330840432188d207187bc8ae2c3c5ecc779f8642603be705a7e2346", func := "casemate/casematelaw04.TcpLaid", spec := "tcpLaid", apart := false }
def TcpLaidSaid : Prop := tcpLaidRow.holds Try.pinned (OpenSpec.ofChange tcpLaidSpec)

/-- ITS FALSE NEIGHBOUR: 'it returns false'. Refute it at one input. -/
def tcpLaidWrong : ChangeSpec := { name := "tcpLaid", fn := fun _ => fun
  | [d1, d2, d3] => { results := [.lit (.bool false)], args := [d1, d2, d3] }
  | _ => none }
def TcpLaidWrongFalsely : Prop := tcpLaidRow.holds Try.pinned (OpenSpec.ofChange tcpLaidWrong)

/- THE SECOND FORM. 'bulk': how many values and letters a reading holds, each counted each time it is reached (what is shared counts as often as it is met; a slice's spare places count too). A statement '..UptoSaid' is the law's where the arguments, and the package variables that the reading takes, are together of bulk at most 1048576: NARROWER than '..Said'. Prove '..Said' where nothing that the law and all that it calls make is longer than what came in: it says more and counts as full. Else prove '..UptoSaid'. A law counts once. -/
mutual
def uptoBulk {H : Type} : DataW H → Nat
  | .lit (.string bytes) => bytes.length + 1
  | .lit _ => 1
  | .nil => 1
  | .ptr d => uptoBulk d + 1
  | .slice elems spare => uptoBulkAll elems + uptoBulkAll spare + 1
  | .agg parts => uptoBulkAll parts + 1
  | .iface _ d => uptoBulk d + 1
  | .map entries => uptoBulkEntries entries + 1
  | .held _ => 1
def uptoBulkAll {H : Type} : List (DataW H) → Nat
  | [] => 0
  | d :: r => uptoBulk d + uptoBulkAll r
def uptoBulkEntries {H : Type} : List (Lit × DataW H) → Nat
  | [] => 0
  | x :: r => uptoBulkEntry x + uptoBulkEntries r
def uptoBulkEntry {H : Type} : Lit × DataW H → Nat
  | (.string bytes, d) => bytes.length + uptoBulk d + 1
  | (_, d) => uptoBulk d + 1
 end
def uptoSmall : (H : Type) → List (DataW H) → Bool := fun _ ds => decide (uptoBulkAll ds ≤ 1048576)
def OpenSpec.upto (s : _root_.Go.ChangeSpec) : _root_.Go.OpenSpec := { _root_.Go.OpenSpec.ofChange s with cond := some uptoSmall }

/-- 'casematelaw04.TcpPuts', WHERE WHAT IT READS IS OF BULK AT MOST 1048576: true; the input reads as it did. -/
def tcpPutsUptoRow : OpenClaim := { program := "ytghgemmbbedopaa", sum := "6b810fa7e330840432188d207187bc8ae2c3c5ecc779f8642603be705a7e2346", func := "casemate/casematelaw04.TcpPuts", spec := "tcpPuts", unfollowed := true, recurses := true, apart := false, narrowed := true }
def TcpPutsUptoSaid : Prop := tcpPutsUptoRow.holds Try.pinned (OpenSpec.upto tcpPutsSpec)

/-- 'casematelaw04.TcpReads', WHERE WHAT IT READS IS OF BULK AT MOST 1048576: true; the input reads as it did. -/
def tcpReadsUptoRow : OpenClaim := { program := "ytghgemmbbedopaa", sum := "6b810fa7e330840432188d207187bc8ae2c3c5ecc779f8642603be705a7e2346", func := "casemate/casematelaw04.TcpReads", spec := "tcpReads", apart := false, narrowed := true }
def TcpReadsUptoSaid : Prop := tcpReadsUptoRow.holds Try.pinned (OpenSpec.upto tcpReadsSpec)

/-- 'casematelaw04.TcpBack', WHERE WHAT IT READS IS OF BULK AT MOST 1048576: true; the input reads as it did. -/
def tcpBackUptoRow : OpenClaim := { program := "ytghgemmbbedopaa", sum := "6b810fa7e330840432188d207187bc8ae2c3c5ecc779f8642603be705a7e2346", func := "casemate/casematelaw04.TcpBack", spec := "tcpBack", unfollowed := true, recurses := true, apart := false, narrowed := true }
def TcpBackUptoSaid : Prop := tcpBackUptoRow.holds Try.pinned (OpenSpec.upto tcpBackSpec)

/-- 'casematelaw04.TcpSpoilt', WHERE WHAT IT READS IS OF BULK AT MOST 1048576: true; the input reads as it did. -/
def tcpSpoiltUptoRow : OpenClaim := { program := "ytghgemmbbedopaa", sum := "6b810fa7e330840432188d207187bc8ae2c3c5ecc779f8642603be705a7e2346", func := "casemate/casematelaw04.TcpSpoilt", spec := "tcpSpoilt", apart := false, narrowed := true }
def TcpSpoiltUptoSaid : Prop := tcpSpoiltUptoRow.holds Try.pinned (OpenSpec.upto tcpSpoiltSpec)

/-- 'casematelaw04.TcpLaid', WHERE WHAT IT READS IS OF BULK AT MOST 1048576: true; the input reads as it did. -/
def tcpLaidUptoRow : OpenClaim := { program := "ytghgemmbbedopaa", sum := "6b810fa7e330840432188d207187bc8ae2c3c5ecc779f8642603be705a7e2346", func := "casemate/casematelaw04.TcpLaid", spec := "tcpLaid", apart := false, narrowed := true }
def TcpLaidUptoSaid : Prop := tcpLaidUptoRow.holds Try.pinned (OpenSpec.upto tcpLaidSpec)

end Rows
end Go.Proofs.Ytghgemmbbedopaa
