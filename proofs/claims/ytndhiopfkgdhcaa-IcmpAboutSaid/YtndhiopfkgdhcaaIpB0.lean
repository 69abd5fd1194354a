/- Contracts of the document's own answers for package ip: short, fits. -/
import Derived.Test.YtndhiopfkgdhcaaIpA3
import Derived.Test.YtndhiopfkgdhcaaCsumB
import Derived.Lib.SliceRun
import Derived.Test.YtndhiopfkgdhcaaSame
namespace Go.Proofs.Ytndhiopfkgdhcaa
open Go.ChangeShapes Go.WideShapes Go.ChangeAt Go.RowKit
set_option linter.unusedVariables false

set_option maxHeartbeats 400000 in
theorem rshort (p : Pk) (Ao : Option Addr) (co : Nat) (Ab : Option Addr) (cb : Nat) (w : World) :
    Calls Try.prog 26 #[pkV p Ao co Ab cb] w fun e w' => e = .returned (.bool (decide (p.opts.length ≤ 100) && decide (p.body.length ≤ 3000))) ∧ Below w.heap.size w w' := by
  by_cases h1 : p.opts.length ≤ 100
  · by_cases h2 : p.body.length ≤ 3000
    · go_enter Try.func26, Try.ntmps26
      go_wp2
      go_ret
      exact ⟨ret_bool (by first | (simp [*]; done) | (simp; omega) | (rw [Bool.eq_iff_iff]; simp [*]; done) | (rw [Bool.eq_iff_iff]; simp [*]; omega) | (rw [Bool.eq_iff_iff]; simp; omega)), (Below.refl _ _).alloc (Nat.le_refl _) _⟩
    · go_enter Try.func26, Try.ntmps26
      go_wp2
      go_ret
      exact ⟨ret_bool (by first | (simp [*]; done) | (simp; omega) | (rw [Bool.eq_iff_iff]; simp [*]; done) | (rw [Bool.eq_iff_iff]; simp [*]; omega) | (rw [Bool.eq_iff_iff]; simp; omega)), (Below.refl _ _).alloc (Nat.le_refl _) _⟩
  · go_enter Try.func26, Try.ntmps26
    go_wp2
    go_ret
    exact ⟨ret_bool (by first | (simp [*]; done) | (simp; omega) | (rw [Bool.eq_iff_iff]; simp [*]; done) | (rw [Bool.eq_iff_iff]; simp [*]; omega) | (rw [Bool.eq_iff_iff]; simp; omega)), (Below.refl _ _).alloc (Nat.le_refl _) _⟩

set_option maxHeartbeats 1000000 in
theorem rfits (p : Pk) (Ao : Option Addr) (co : Nat) (Ab : Option Addr) (cb : Nat) (w : World) (ho : p.opts.length ≤ 16777216) (hb : p.body.length ≤ 16777216) (f0 : 0 ≤ p.off) (f1 : p.off ≤ 65528) :
    Calls Try.prog 55 #[pkV p Ao co Ab cb] w fun e w' => e = .returned (.bool (fitsB p)) ∧ Below w.heap.size w w' := by
  unfold fitsB
  have t1 : ((p.body.length : Int) == 0) = decide (p.body.length = 0) := by rw [Bool.eq_iff_iff]; simp
  go_enter Try.func55, Try.ntmps55
  go_wp2
  all_goals (go_ret; refine ⟨ret_bool ?_, (Below.refl _ _).alloc (Nat.le_refl _) _⟩)
  all_goals first | (simp [*]; done) | (simp; omega) | (rw [Bool.eq_iff_iff]; simp [*]; done) | (rw [Bool.eq_iff_iff]; simp [*]; omega) | (rw [Bool.eq_iff_iff]; simp; omega) | (have hx : 0 < p.body.length := List.length_pos_iff.2 (by assumption); have hy : p.body.length % 8 = 0 := (by omega); simp [*]; done)
end Go.Proofs.Ytndhiopfkgdhcaa
