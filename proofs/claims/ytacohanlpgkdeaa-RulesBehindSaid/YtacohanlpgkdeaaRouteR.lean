/- The document's own answers for package route: Right. -/
import Derived.Test.YtacohanlpgkdeaaRouteV
import Derived.Test.YtacohanlpgkdeaaRouteIn
import Derived.Deep.RegionHeld3
namespace Go.Proofs.Ytacohanlpgkdeaa
open Go.ChangeShapes Go.WideShapes Go.ChangeAt Go.RowKit
set_option linter.unusedVariables false
set_option linter.unusedSimpArgs false

theorem emod_leR {a p : Int} (h : 0 ≤ a) (hp : 0 < p) : a % p ≤ a := by
  have h1 := Int.mul_ediv_add_emod a p
  have h2 : 0 ≤ p * (a / p) := Int.mul_nonneg (Int.le_of_lt hp) (Int.ediv_nonneg h (Int.le_of_lt hp))
  omega
theorem rem_u64 {a p : Int} (h : 0 ≤ a ∧ a ≤ 4294967295) (hp : 0 < p) : IntKind.u64.wrap (Int.tmod a p) = a % p := by
  rw [Int.tmod_eq_emod_of_nonneg h.1]
  have h1 := Int.emod_nonneg a (Int.ne_of_gt hp)
  have h2 := emod_leR (p := p) h.1 hp
  exact IntWalk.u64_in _ (by omega)
theorem pow_leR {j d : Nat} (h : j ≤ d) : (2 : Int) ^ j ≤ 2 ^ d := by
  have := Nat.pow_le_pow_right (n := 2) (by decide) h
  exact_mod_cast this
end Go.Proofs.Ytacohanlpgkdeaa
