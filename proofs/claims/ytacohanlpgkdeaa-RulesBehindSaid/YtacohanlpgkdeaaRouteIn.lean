/- The document's In. -/
import Derived.Test.YtacohanlpgkdeaaRoutePlain
import Derived.Test.YtacohanlpgkdeaaFlat
namespace Go.Proofs.Ytacohanlpgkdeaa
open Go.ChangeShapes Go.WideShapes Go.ChangeAt Go.RowKit
set_option linter.unusedVariables false
set_option linter.unusedSimpArgs false

/-- nets halved. -/
theorem half_u32 {a : Int} (h : 0 ≤ a ∧ a ≤ 4294967295) : IntKind.u32.wrap (Int.tdiv a 2) = a / 2 := by
  rw [Int.tdiv_eq_ediv_of_nonneg h.1]
  exact IntWalk.u32_in _ (by omega)
set_option maxRecDepth 100000 in
set_option maxHeartbeats 4000000 in
theorem rin13 (addr net bits : Int) (ha : 0 ≤ addr ∧ addr ≤ 4294967295) (hn : 0 ≤ net ∧ net ≤ 4294967295) (w : World) (q : Bool) (hq : inN addr net bits = q) :
    Calls Try.prog 19 #[.int .u32 addr, .int .u32 net, .int .i64 bits] w fun e w' => e = .returned (.bool q) ∧ Below w.heap.size w w' := by
  by_cases h0 : bits < 0
  · have HQ : Hid (q = false) := Go.Lib.hid (by rw [← hq]; unfold inN; rw [decide_eq_false (show ¬ 0 ≤ bits by omega)]; rfl)
    clear hq
    go_enter Try.func19, Try.ntmps19
    go_wp2
    go_ret
    exact ⟨by rw [HQ.out]; rfl, Below.refl _ _⟩
  by_cases h32 : 32 < bits
  · have HQ : Hid (q = false) := Go.Lib.hid (by rw [← hq]; unfold inN; rw [decide_eq_false (show ¬ bits ≤ 32 by omega), Bool.false_and, Bool.and_false])
    clear hq
    go_enter Try.func19, Try.ntmps19
    go_wp2
    go_ret
    exact ⟨by rw [HQ.out]; rfl, Below.refl _ _⟩
  have HQ : Hid (q = (addr / powR bits == net / powR bits)) := Go.Lib.hid (by rw [← hq]; unfold inN; rw [decide_eq_true (show 0 ≤ bits by omega), decide_eq_true (show bits ≤ 32 by omega)]; rfl)
  have e1 : IntKind.i64.wrap (32 - bits) = 32 - bits := IntWalk.i64_in _ (by omega)
  clear hq
  go_enter Try.func19, Try.ntmps19
  go_wp2_with fail
  go_loop [0, 1, 7] (fun av nv iv => ∃ (k : Nat) (a n : Int), av = .int .u32 a ∧ nv = .int .u32 n ∧ iv = .int .i64 k ∧ k ≤ (32 - bits).toNat ∧ Hid (a = addr / 2 ^ k ∧ n = net / 2 ^ k) ∧ (0 ≤ a ∧ a ≤ 4294967295) ∧ (0 ≤ n ∧ n ≤ 4294967295)) (fun _ _ iv => (32 - bits).toNat - (intOf iv).toNat)
  case atStart => exact ⟨0, addr, net, rfl, rfl, rfl, by omega, Go.Lib.hid ⟨by simp, by simp⟩, ha, hn⟩
  case round =>
    obtain ⟨k, a, n, rfl, rfl, rfl, hk, HK, hra, hrn⟩ := hrel
    have k0 : (0 : Int) ≤ (k : Int) := by omega
    by_cases hkl : (k : Int) < 32 - bits
    · have q1 := half_u32 hra
      have q2 := half_u32 hrn
      go_wp2_with fail
      go_round
      case rel => exact ⟨k + 1, a / 2, n / 2, by rw [← q1], by rw [← q2], by go_num, by omega, Go.Lib.hid ⟨by rw [HK.out.1, Int.pow_succ, Int.ediv_ediv_of_nonneg (Int.le_of_lt (Int.pow_pos (by decide)))], by rw [HK.out.2, Int.pow_succ, Int.ediv_ediv_of_nonneg (Int.le_of_lt (Int.pow_pos (by decide)))]⟩, by omega, by omega⟩
      case measure => simp [intOf]; omega
    · have e : (32 - bits).toNat = k := by omega
      have HR : Hid ((a == n) = q) := Go.Lib.hid (by rw [HQ.out, HK.out.1, HK.out.2]; unfold powR; rw [e])
      go_wp2_with fail
      go_ret
      exact ⟨ret_bool HR.out, Below.refl _ _⟩
end Go.Proofs.Ytacohanlpgkdeaa
