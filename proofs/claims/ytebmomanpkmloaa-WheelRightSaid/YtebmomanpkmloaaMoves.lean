/- Calls that turn memory of their own: which blocks may have turned. -/
import Derived.Test.YtebmomanpkmloaaFlat
namespace Go.Proofs.Ytebmomanpkmloaa
open Go.ChangeShapes Go.WideShapes Go.ChangeAt Go.RowKit
set_option linter.unusedVariables false

/-- a number of 64 bits. -/
def I64 (n : Int) : Prop := -9223372036854775808 ≤ n ∧ n ≤ 9223372036854775807
/-- a call has turned: its own blocks may have, and there are new ones. -/
structure Moves (w w' : World) (F : Nat → Prop) : Prop where
  os : w'.os = w.os
  tape : w'.tape = w.tape
  output : w'.output = w.output
  size : w.heap.size ≤ w'.heap.size
  block : ∀ k, k < w.heap.size → ¬ F k → w'.heap[k]? = w.heap[k]?
theorem Moves.below {w w' : World} {F : Nat → Prop} {B : Nat} (h : Moves w w' F) (hF : ∀ b, F b → B ≤ b) (hB : B ≤ w.heap.size) : Below B w w' :=
  ⟨h.os, h.tape, h.output, h.size, fun k hk => h.block k (by omega) (fun f => by have := hF k f; omega)⟩
def Newer (w : World) (F F' : Nat → Prop) : Prop := ∀ b, F' b → F b ∨ w.heap.size ≤ b
theorem Moves.refl (w : World) (F : Nat → Prop) : Moves w w F := ⟨rfl, rfl, rfl, Nat.le_refl _, fun _ _ _ => rfl⟩
theorem Moves.trans {w w' w'' : World} {F : Nat → Prop} (h : Moves w w' F) (k : Moves w' w'' F) : Moves w w'' F :=
  ⟨k.os.trans h.os, k.tape.trans h.tape, k.output.trans h.output, Nat.le_trans h.size k.size, fun i hi hn => (k.block i (Nat.lt_of_lt_of_le hi h.size) hn).trans (h.block i hi hn)⟩
theorem moves_below {w w' : World} {F : Nat → Prop} (h : Below w.heap.size w w') : Moves w w' F := ⟨h.os, h.tape, h.output, h.size, fun k hk _ => h.block k hk⟩
theorem Moves.next {w w1 w2 : World} {F F1 : Nat → Prop} (h : Moves w w1 F) (n : Newer w F F1) (k : Moves w1 w2 F1) : Moves w w2 F :=
  ⟨k.os.trans h.os, k.tape.trans h.tape, k.output.trans h.output, Nat.le_trans h.size k.size, fun i hi hn => (k.block i (Nat.lt_of_lt_of_le hi h.size) (fun f => (n i f).elim hn (fun q => by omega))).trans (h.block i hi hn)⟩
end Go.Proofs.Ytebmomanpkmloaa
