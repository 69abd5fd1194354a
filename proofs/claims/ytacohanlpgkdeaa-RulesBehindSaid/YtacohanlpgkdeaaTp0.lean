/- A tuple: its numbers. -/
import Derived.Test.YtacohanlpgkdeaaRows
namespace Go.Proofs.Ytacohanlpgkdeaa
set_option linter.unusedVariables false

structure Tp where
  proto : Int
  src : Int
  sport : Int
  dst : Int
  dport : Int
abbrev tp0 : Tp := ⟨0, 0, 0, 0, 0⟩
def sameTp (a b : Tp) : Bool := a.proto == b.proto && (a.src == b.src && (a.sport == b.sport && (a.dst == b.dst && a.dport == b.dport)))
theorem sameTp_iff (a b : Tp) : sameTp a b = true ↔ a = b := by cases a; cases b; simp [sameTp]
/-- what a tuple's numbers may be in memory. -/
structure RngTp (t : Tp) : Prop where
  s0 : 0 ≤ t.src
  s1 : t.src ≤ 4294967295
  d0 : 0 ≤ t.dst
  d1 : t.dst ≤ 4294967295
def turnT (t : Tp) : Tp := ⟨t.proto, t.dst, t.dport, t.src, t.sport⟩
theorem turn_turn (t : Tp) : turnT (turnT t) = t := rfl
def inT (n m : Int) : Bool := decide (0 ≤ n) && decide (n < m)
def rightT (t : Tp) : Bool := inT t.proto 256 && (inT t.sport 65536 && inT t.dport 65536)
theorem rightT_iff (t : Tp) : rightT t = true ↔ (0 ≤ t.proto ∧ t.proto < 256) ∧ (0 ≤ t.sport ∧ t.sport < 65536) ∧ (0 ≤ t.dport ∧ t.dport < 65536) := by simp [rightT, inT]
theorem right_turn (t : Tp) : rightT (turnT t) = rightT t := by
  rw [Bool.eq_iff_iff, rightT_iff, rightT_iff]
  unfold turnT
  dsimp only
  omega
theorem turn_same (t : Tp) : turnT t = t ↔ t.src = t.dst ∧ t.sport = t.dport := by
  cases t
  simp [turnT]
  omega
end Go.Proofs.Ytacohanlpgkdeaa
