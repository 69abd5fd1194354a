/- The document's own answers for package route: Find, Zone. -/
import Derived.Test.YtacohanlpgkdeaaRouteR
import Derived.Deep.DeepCutAuto
namespace Go.Proofs.Ytacohanlpgkdeaa
open Go.ChangeShapes Go.WideShapes Go.ChangeAt Go.RowKit
set_option linter.unusedVariables false
set_option linter.unusedSimpArgs false

theorem stepR_yes {addr : Int} {b r : Rt} (h : (decide (b.bits < r.bits) && inN addr r.net r.bits) = true) : stepR addr b r = r := by unfold stepR; rw [if_pos h]
theorem stepR_no {addr : Int} {b r : Rt} (h : (decide (b.bits < r.bits) && inN addr r.net r.bits) = false) : stepR addr b r = b := by unfold stepR; rw [h, if_neg (by simp)]
theorem rt_one1 (r : Rt) : ∀ u ∈ rtL r, u.oneCell' = true := by simp [Value.oneCell']
/-- a struct and a bool, as two results. -/
theorem results_ct13 {P : Program} {fn : Func} {p u : Tmp} {t1 : TypeId} (h : fn.results = #[.cell p t1, .tmp u]) (tmps : Array Value) (w : World) (g1 : Nat) (c1 : List Value) (d1 : TypeDesc)
    (hp : tmps.getD p undef = .pointer (some ⟨g1, 0, none⟩)) (h1 : Bxo w g1 t1 c1)
    (u1 : P.underlying t1 = some d1) (r1 : (match d1 with | .struct _ | .array _ _ => true | _ => false) = true) (i1 : (P.info? t1).map (·.size) = some c1.length) :
    (results fn tmps).run P w = .ok (.tuple #[.agg c1.toArray, tmps.getD u undef]) w := by
  have hp' : tmps[p]?.getD undef = .pointer (some ⟨g1, 0, none⟩) := by simpa using hp
  have e1 := run_loadVar_row (P := P) w g1 t1 t1 c1.toArray (0, 0) d1 h1 u1 r1 (by simpa using i1)
  simp [results, h, hp', asAddr, e1]
theorem bestR_take (l : List Rt) (addr : Int) {k : Nat} (hk : k < l.length) : bestR (l.take (k + 1)) addr = stepR addr (bestR (l.take k) addr) (atR l k) := by
  rw [← List.take_append_getElem hk, bestR_snoc, atR_get hk]
end Go.Proofs.Ytacohanlpgkdeaa
