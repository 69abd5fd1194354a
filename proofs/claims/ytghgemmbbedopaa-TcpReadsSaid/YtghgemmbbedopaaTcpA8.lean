/- The contract of package tcp's measure. -/
import Derived.Test.YtghgemmbbedopaaTcpA7
import Derived.Test.YtghgemmbbedopaaTcpPlain3
import Derived.Test.YtghgemmbbedopaaTcpOpt
namespace Go.Proofs.Ytghgemmbbedopaa
open Go.ChangeShapes Go.WideShapes Go.ChangeAt Go.RowKit
set_option linter.unusedVariables false
set_option linter.unusedSimpArgs false

set_option maxRecDepth 100000 in
set_option maxHeartbeats 1000000 in
theorem tmeasure (A : Option Addr) (n c : Nat) (l : List UInt8) (B : Nat) (w : World) (hn : l.length = n) (h : Bs w B A l) (hn2 : n ≤ 16777216) :
    Calls Try.prog 33 #[.slice A n c] w fun e w' => e = .returned (.tuple #[.int .i64 (tmH l), .int .i64 (tmE l)]) ∧ w = w' := by
  by_cases h65 : 65535 < n
  · have e : tmE l = 4 := by unfold tmE; rw [if_pos (by omega)]
    have e2 : tmH l = 0 := by unfold tmH; rw [e]; rfl
    rw [e, e2]
    clear e e2 hn h
    go_enter Try.func33, Try.ntmps33
    go_wp2
    go_ret2
    exact ⟨rfl, rfl⟩
  by_cases h20 : n < 20
  · have e : tmE l = 2 := by unfold tmE; rw [if_neg (by omega), if_pos (by omega)]
    have e2 : tmH l = 0 := by unfold tmH; rw [e]; rfl
    rw [e, e2]
    clear e e2 hn h
    go_enter Try.func33, Try.ntmps33
    go_wp2
    go_ret2
    exact ⟨rfl, rfl⟩
  obtain ⟨ad, rfl, hlt, hcell⟩ := g8_cells h (by omega)
  have c12 : w.cell? { block := ad.block, off := ad.off + 12 } = some (.int .u8 (g8 l 12)) := by have := hcell 12 (by omega); rwa [add_pos ad 12 (by omega)] at this
  clear hcell
  have b0 := g8_lo l 12
  have b1 := g8_hi l 12
  have i12 : (12 : Int) < (n : Int) := by omega
  by_cases h3 : tsz l < 20 ∨ (n : Int) < tsz l
  · have e : tmE l = 3 := by unfold tmE; rw [if_neg (by omega), if_neg (by omega), if_pos (by rw [hn]; exact h3)]
    have e2 : tmH l = 0 := by unfold tmH; rw [e]; rfl
    rw [e, e2]
    clear e e2 hn h
    unfold tsz at h3
    generalize g8 l 12 = x at *
    have h3' : x / 16 * 4 < 20 ∨ (20 ≤ x / 16 * 4 ∧ (n : Int) < x / 16 * 4) := by omega
    clear h3
    rcases h3' with h3 | ⟨h3, h5⟩
    all_goals
      go_enter Try.func33, Try.ntmps33
      go_wp2
      go_ret2
      exact ⟨rfl, rfl⟩
  · have e : tmE l = 0 := by unfold tmE; rw [if_neg (by omega), if_neg (by omega), if_neg (by rw [hn]; exact h3)]
    have e2 : tmH l = tsz l := by unfold tmH; rw [e]; rfl
    rw [e, e2]
    have e3 : tsz l = g8 l 12 / 16 * 4 := rfl
    rw [e3] at h3 ⊢
    clear e e2 hn h e3
    generalize g8 l 12 = x at *
    have h4 : 20 ≤ x / 16 * 4 := by omega
    have h5 : x / 16 * 4 ≤ (n : Int) := by omega
    clear h3
    go_enter Try.func33, Try.ntmps33
    go_wp2
    go_ret2
    exact ⟨rfl, rfl⟩
end Go.Proofs.Ytghgemmbbedopaa
