/- Tuples as values: their cells; two that are compared. -/
import Derived.Test.YtacohanlpgkdeaaTp0
import Derived.Test.YtacohanlpgkdeaaBig2
import Derived.Test.YtacohanlpgkdeaaSet
namespace Go.Proofs.Ytacohanlpgkdeaa
open Go.ChangeShapes Go.WideShapes Go.ChangeAt Go.RowKit
set_option linter.unusedVariables false
set_option linter.unusedSimpArgs false

abbrev tpL (t : Tp) : List Value := [.int .i64 t.proto, .int .u32 t.src, .int .i64 t.sport, .int .u32 t.dst, .int .i64 t.dport]
abbrev tpV (t : Tp) : Value := .agg #[.int .i64 t.proto, .int .u32 t.src, .int .i64 t.sport, .int .u32 t.dst, .int .i64 t.dport]
abbrev oTp (t : Tp) : Obj := .cells #[.int .i64 t.proto, .int .u32 t.src, .int .i64 t.sport, .int .u32 t.dst, .int .i64 t.dport] 27
theorem info_tp : (Try.prog.info? 27).map (·.size) = some 5 := by kernel_rfl
theorem tp_one (t : Tp) : ∀ u ∈ tpL t, u.oneCell' = true := by simp [Value.oneCell']
theorem eqInTpD (d : Nat) (m n : Tp) (w : World) : (Op.equalIn (d + 1 + 1) 27 (tpV m) (tpV n)).run Try.prog w = .ok (sameTp m n) w := by
  have hS : Try.prog.underlying 27 = some (.struct (Try.prog.fieldsOf 27)) := by kernel_rfl
  have hp : Try.prog.stoodInHeld 27 = false := by kernel_rfl
  have u3 := Try.underlying3
  have u4 := Try.underlying23
  have a3 := Try.isAgg3
  have z3 := Try.sizeOf3
  have a4 := Try.isAgg23
  have z4 := Try.sizeOf23
  rw [run_equalIn_agg w (d + 1) 27 _ _ hS hp]
  simp only [Program.fieldsOf, Try.underlying27]
  obtain ⟨m1, m2, m3, m4, m5⟩ := m
  obtain ⟨n1, n2, n3, n4, n5⟩ := n
  unfold sameTp
  go_simp
  by_cases h1 : m1 = n1 <;> by_cases h2 : m2 = n2 <;> by_cases h3 : m3 = n3 <;> by_cases h4 : m4 = n4 <;> by_cases h5 : m5 = n5 <;> simp [h1, h2, h3, h4, h5]
theorem eqInTp (m n : Tp) (w : World) : (Op.equalIn 10000 27 (tpV m) (tpV n)).run Try.prog w = .ok (sameTp m n) w := eqInTpD 9998 m n w
theorem eqTp (m n : Tp) (w : World) : (binOp .eql 27 (tpV m) (tpV n)).run Try.prog w = .ok (.bool (sameTp m n)) w := by
  rw [run_eql_struct, eqInTp]; rfl
theorem neTp (m n : Tp) (w : World) : (binOp .neq 27 (tpV m) (tpV n)).run Try.prog w = .ok (.bool (!sameTp m n)) w := by
  rw [run_neq_struct, eqInTp]; rfl
end Go.Proofs.Ytacohanlpgkdeaa
