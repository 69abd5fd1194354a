/-
  No cell of these rows narrows 'for every input' (looked for: loops, veiled, ifaces, maps, wideKeys, modest, calm, conditions, laid).
  DERIVED. THE GIVEN ROWS OF THIS SEAT. 5 by the template 'for every input the law returns true; each argument reads behind the call as it read before'; 0 by the template 'total and deterministic' (their statements: YtndhiopfkgdhcaaTotals.lean).
  GIVEN WITH THE SEED: the statements are not yours to turn. If you find one false, say at which input.
  Laid BY PROGRAM, IN A SANDBOX (cutbox-rows.mjs): the forced cells as the released guide's own fill.sh prints them over the translation dc3f1980347421eb… (all of the seat's roots in one cut). By AI agents, Wed Nov 11 2026. No macro, syntax, notation, axiom, sorry.
-/
import Derived.Test.YtndhiopfkgdhcaaChecked
import GoSem.Claim
import GoSem.ClaimJoined
import GoSem.ClaimMapViews
import Derived.JoinedTies
import Derived.KernelRfl
namespace Go.Proofs.Ytndhiopfkgdhcaa
/- THE CELL 'sum', in the pinned program and in every row, IS THE sha256 OF THE DUMP (.gsa) THAT YtndhiopfkgdhcaaProg.lean LOADS. Nothing in Lean hashes anything: it is a label: what it is worth is what the hold of that sum in a sandbox is worth. -/
noncomputable def Try.pinned : Pinned := { name := "ytndhiopfkgdhcaa", sum := "dc3f1980347421ebe7212f1bbd8bda59f438defd1eb16a86f5d4d74936eaae1f", checked := Try.checked }
namespace Rows
def none {H : Type} : Left H := { results := [], args := [] }

/-- 'casematelaw06.IcmpPuts': WHATEVER THE INPUT: true; the input reads as it did. -/
def icmpPutsSpec : ChangeSpec := { name := "icmpPuts", fn := fun _ => fun
  | [d1, d2] => { results := [.lit (.bool true)], args := [d1, d2] }
  | _ => none }
def icmpPutsRow : OpenClaim := { program := "ytndhiopfkgdhcaa", sum := "dc3f1980347421ebe7212f1bbd8bda59f438defd1eb16a86f5d4d74936eaae1f", func := "casemate/casematelaw06.IcmpPuts", spec := "icmpPuts", apart := false }
def IcmpPutsSaid : Prop := icmpPutsRow.holds Try.pinned (OpenSpec.ofChange icmpPutsSpec)

/-- ITS FALSE NEIGHBOUR: 'it returns false'. Refute it at one input. -/
def icmpPutsWrong : ChangeSpec := { name := "icmpPuts", fn := fun _ => fun
  | [d1, d2] => { results := [.lit (.bool false)], args := [d1, d2] }
  | _ => none }
def IcmpPutsWrongFalsely : Prop := icmpPutsRow.holds Try.pinned (OpenSpec.ofChange icmpPutsWrong)

/-- 'casematelaw06.IcmpReads': WHATEVER THE INPUT: true; the input reads as it did. -/
def icmpReadsSpec : ChangeSpec := { name := "icmpReads", fn := fun _ => fun
  | [d] => { results := [.lit (.bool true)], args := [d] }
  | _ => none }
def icmpReadsRow : OpenClaim := { program := "ytndhiopfkgdhcaa", sum := "dc3f1980347421ebe7212f1bbd8bda59f438defd1eb16a86f5d4d74936eaae1f", func := "casemate/casematelaw06.IcmpReads", spec := "icmpReads", apart := false }
def IcmpReadsSaid : Prop := icmpReadsRow.holds Try.pinned (OpenSpec.ofChange icmpReadsSpec)

/-- ITS FALSE NEIGHBOUR: 'it returns false'. Refute it at one input. -/
def icmpReadsWrong : ChangeSpec := { name := "icmpReads", fn := fun _ => fun
  | [d] => { results := [.lit (.bool false)], args := [d] }
  | _ => none }
def IcmpReadsWrongFalsely : Prop := icmpReadsRow.holds Try.pinned (OpenSpec.ofChange icmpReadsWrong)

/-- 'casematelaw06.IcmpAbout': WHATEVER THE INPUT: true; the input reads as it did. -/
def icmpAboutSpec : ChangeSpec := { name := "icmpAbout", fn := fun _ => fun
  | [d1, d2, d3, d4, d5] => { results := [.lit (.bool true)], args := [d1, d2, d3, d4, d5] }
  | _ => none }
def icmpAboutRow : OpenClaim := { program := "ytndhiopfkgdhcaa", sum := "dc3f1980347421ebe7212f1bbd8bda59f438defd1eb16a86f5d4d74936eaae1f", func := "casemate/casematelaw06.IcmpAbout", spec := "icmpAbout", apart := false }
def IcmpAboutSaid : Prop := icmpAboutRow.holds Try.pinned (OpenSpec.ofChange icmpAboutSpec)

/-- ITS FALSE NEIGHBOUR: 'it returns false'. Refute it at one input. -/
def icmpAboutWrong : ChangeSpec := { name := "icmpAbout", fn := fun _ => fun
  | [d1, d2, d3, d4, d5] => { results := [.lit (.bool false)], args := [d1, d2, d3, d4, d5] }
  | _ => none }
def IcmpAboutWrongFalsely : Prop := icmpAboutRow.holds Try.pinned (OpenSpec.ofChange icmpAboutWrong)

/-- 'casematelaw06.IcmpBack': WHATEVER THE INPUT: true; the input reads as it did. -/
def icmpBackSpec : ChangeSpec := { name := "icmpBack", fn := fun _ => fun
  | [d1, d2, d3] => { results := [.lit (.bool true)], args := [d1, d2, d3] }
  | _ => none }
def icmpBackRow : OpenClaim := { program := "ytndhiopfkgdhcaa", sum := "dc3f1980347421ebe7212f1bbd8bda59f438defd1eb16a86f5d4d74936eaae1f", func := "casemate/casematelaw06.IcmpBack", spec := "icmpBack", apart := false }
def IcmpBackSaid : Prop := icmpBackRow.holds Try.pinned (OpenSpec.ofChange icmpBackSpec)

/-- ITS FALSE NEIGHBOUR: 'it returns false'. Refute it at one input. -/
def icmpBackWrong : ChangeSpec := { name := "icmpBack", fn := fun _ => fun
  | [d1, d2, d3] => { results := [.lit (.bool false)], args := [d1, d2, d3] }
  | _ => none }
def IcmpBackWrongFalsely : Prop := icmpBackRow.holds Try.pinned (OpenSpec.ofChange icmpBackWrong)

/-- 'casematelaw06.IcmpLaid': WHATEVER THE INPUT: true; the input reads as it did. -/
def icmpLaidSpec : ChangeSpec := { name := "icmpLaid", fn := fun _ => fun
  | [d] => { results := [.lit (.bool true)], args := [d] }
  | _ => none }
def icmpLaidRow : OpenClaim := { program := "ytndhiopfkgdhcaa", sum := "dc3f1980347421ebe7212f1bbd8bda59f438defd1eb16a86f5d4d74936eaae1f", func := "casemate/casematelaw06.IcmpLaid", spec := "icmpLaid", apart := false }
def IcmpLaidSaid : Prop := icmpLaidRow.holds Try.pinned (OpenSpec.ofChange icmpLaidSpec)

/-- ITS FALSE NEIGHBOUR: 'it returns false'. Refute it at one input. -/
def icmpLaidWrong : ChangeSpec := { name := "icmpLaid", fn := fun _ => fun
  | [d] => { results := [.lit (.bool false)], args := [d] }
  | _ => none }
def IcmpLaidWrongFalsely : Prop := icmpLaidRow.holds Try.pinned (OpenSpec.ofChange icmpLaidWrong)

/- THE SECOND FORM. 'bulk': how many values and letters a reading holds, each counted each time it is reached (what is shared counts as often as it is met; a slice's spare places count too). A statement '..UptoSaid' is the law's where the arguments, and the package variables that the reading takes, are together of bulk at most 1048576: NARROWER than '..Said'. Prove '..Said' where nothing that the law and all that it calls make is longer than what came in: it says more and counts as full. Else prove '..UptoSaid'. A law counts once. -/
mutual
def uptoBulk {H : Type} : DataW H → Nat
  | .lit (.string bytes) => bytes.length + 1
  | .lit _ => 1
  | .nil => 1
  | .ptr d => uptoBulk d + 1
  | .slice elems spare => uptoBulkAll elems + uptoBulkAll spare + 1
  | .agg parts => uptoBulkAll parts + 1
  | .iface _ d => uptoBulk d + 1
  | .map entries => uptoBulkEntries entries + 1
  | .held _ => 1
def uptoBulkAll {H : Type} : List (DataW H) → Nat
  | [] => 0
  | d :: r => uptoBulk d + uptoBulkAll r
def uptoBulkEntries {H : Type} : List (Lit × DataW H) → Nat
  | [] => 0
  | x :: r => uptoBulkEntry x + uptoBulkEntries r
def uptoBulkEntry {H : Type} : Lit × DataW H → Nat
  | (.string bytes, d) => bytes.length + uptoBulk d + 1
  | (_, d) => uptoBulk d + 1
 end
def uptoSmall : (H : Type) → List (DataW H) → Bool := fun _ ds => decide (uptoBulkAll ds ≤ 1048576)
def OpenSpec.upto (s : _root_.Go.ChangeSpec) : _root_.Go.OpenSpec := { _root_.Go.OpenSpec.ofChange s with cond := some uptoSmall }

/-- 'casematelaw06.IcmpPuts', WHERE WHAT IT READS IS OF BULK AT MOST 1048576: true; the input reads as it did. -/
def icmpPutsUptoRow : OpenClaim := { program := "ytndhiopfkgdhcaa", sum := "dc3f1980347421ebe7212f1bbd8bda59f438defd1eb16a86f5d4d74936eaae1f", func := "casemate/casematelaw06.IcmpPuts", spec := "icmpPuts", apart := false, narrowed := true }
def IcmpPutsUptoSaid : Prop := icmpPutsUptoRow.holds Try.pinned (OpenSpec.upto icmpPutsSpec)

/-- 'casematelaw06.IcmpReads', WHERE WHAT IT READS IS OF BULK AT MOST 1048576: true; the input reads as it did. -/
def icmpReadsUptoRow : OpenClaim := { program := "ytndhiopfkgdhcaa", sum := "dc3f1980347421ebe7212f1bbd8bda59f438defd1eb16a86f5d4d74936eaae1f", func := "casemate/casematelaw06.IcmpReads", spec := "icmpReads", apart := false, narrowed := true }
def IcmpReadsUptoSaid : Prop := icmpReadsUptoRow.holds Try.pinned (OpenSpec.upto icmpReadsSpec)

/-- 'casematelaw06.IcmpAbout', WHERE WHAT IT READS IS OF BULK AT MOST 1048576: true; the input reads as it did. -/
def icmpAboutUptoRow : OpenClaim := { program := "ytndhiopfkgdhcaa", sum := "dc3f1980347421ebe7212f1bbd8bda59f438defd1eb16a86f5d4d74936eaae1f", func := "casemate/casematelaw06.IcmpAbout", spec := "icmpAbout", apart := false, narrowed := true }
def IcmpAboutUptoSaid : Prop := icmpAboutUptoRow.holds Try.pinned (OpenSpec.upto icmpAboutSpec)

/-- 'casematelaw06.IcmpBack', WHERE WHAT IT READS IS OF BULK AT MOST 1048576: true; the input reads as it did. -/
def icmpBackUptoRow : OpenClaim := { program := "ytndhiopfkgdhcaa", sum := "dc3f1980347421ebe7212f1bbd8bda59f438defd1eb16a86f5d4d74936eaae1f", func := "casemate/casematelaw06.IcmpBack", spec := "icmpBack", apart := false, narrowed := true }
def IcmpBackUptoSaid : Prop := icmpBackUptoRow.holds Try.pinned (OpenSpec.upto icmpBackSpec)

/-- 'casematelaw06.IcmpLaid', WHERE WHAT IT READS IS OF BULK AT MOST 1048576: true; the input reads as it did. -/
def icmpLaidUptoRow : OpenClaim := { program := "ytndhiopfkgdhcaa", sum := "dc3f1980347421ebe7212f1bbd8bda59f438defd1eb16a86f5d4d74936eaae1f", func := "casemate/casematelaw06.IcmpLaid", spec := "icmpLaid", apart := false, narrowed := true }
def IcmpLaidUptoSaid : Prop := icmpLaidUptoRow.holds Try.pinned (OpenSpec.upto icmpLaidSpec)

end Rows
end Go.Proofs.Ytndhiopfkgdhcaa
