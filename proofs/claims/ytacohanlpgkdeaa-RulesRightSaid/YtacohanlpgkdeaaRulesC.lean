/- What package rules's functions owe, as propositions. -/
import Derived.Test.YtacohanlpgkdeaaRulesV
namespace Go.Proofs.Ytacohanlpgkdeaa
open Go.ChangeShapes Go.WideShapes Go.ChangeAt Go.RowKit
set_option linter.unusedVariables false

def RightC14 : Prop := ∀ (l : List Ru) (A : Option Addr) (c N : Nat), l.length = N → N ≤ 100 → ∀ (w : World), RusAt w l A c → ∀ (q : Bool), rightU l = q → Calls Try.prog 10 #[.slice A N c] w fun e w' => e = .returned (.bool q) ∧ Below w.heap.size w w'
def FitsC14 : Prop := ∀ (r : Ru), RngRu r → ∀ (f t : Int) (tp : Tp), RngTp tp → ∀ (w : World) (q : Bool), fitsU r f t tp = q → Calls Try.prog 12 #[ruV r, .int .i64 f, .int .i64 t, tpV tp] w fun e w' => e = .returned (.bool q) ∧ Below w.heap.size w w'
def AskC14 : Prop := ∀ (l : List Ru) (A : Option Addr) (c N : Nat), l.length = N → N ≤ 100 → ∀ (f t : Int) (tp : Tp), RngTp tp → ∀ (w : World), RusAt w l A c → ∀ (q : Int × Int), askU l f t tp = q → Calls Try.prog 8 #[.slice A N c, .int .i64 f, .int .i64 t, tpV tp] w fun e w' => e = .returned (.tuple #[.int .i64 q.1, .int .i64 q.2]) ∧ Below w.heap.size w w'
/-- places, in a row. -/
def plcL (k : Nat) : List Value := [.int .i64 (k : Int)]
def PlcOut (w : World) (q : List Nat) (e : Ending) (w' : World) : Prop := ∃ (A : Option Addr) (c N : Nat), e = .returned (.slice A N c) ∧ q.length = N ∧ N ≤ c ∧ RdC w' A (q.flatMap plcL) ∧ Below w.heap.size w w'
def PairsC14 : Prop := ∀ (l : List Ru) (A : Option Addr) (c N : Nat), l.length = N → N ≤ 100 → ∀ (f t : Int) (w : World), RusAt w l A c → ∀ (q : List Nat), pairsU l f t = q → Calls Try.prog 14 #[.slice A N c, .int .i64 f, .int .i64 t] w fun e w' => PlcOut w q e w'
def AwakeC14 : Prop := ∀ w, Calls Try.prog 7 #[] w fun e w' => e = .returned (.bool true) ∧ Below w.heap.size w w'
end Go.Proofs.Ytacohanlpgkdeaa
