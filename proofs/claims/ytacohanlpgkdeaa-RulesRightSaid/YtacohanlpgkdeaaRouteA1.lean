/- The landed route: which bits count; In. -/
import Derived.Test.YtacohanlpgkdeaaRouteC
namespace Go.Proofs.Ytacohanlpgkdeaa
open Go.ChangeShapes Go.WideShapes Go.ChangeAt Go.RowKit
set_option linter.unusedVariables false
set_option linter.unusedSimpArgs false

theorem pow_of (b : Int) (h : 0 ≤ b ∧ b ≤ 32) : ∃ d : Nat, (32 - b).toNat = d ∧ d ≤ 32 ∧ powR b = ((2 ^ d : Nat) : Int) ∧ 2 ^ d ≤ 4294967296 ∧ 0 < 2 ^ d := by
  refine ⟨(32 - b).toNat, rfl, by omega, by unfold powR; rw [Int.natCast_pow]; rfl, ?_, Nat.pow_pos (by decide)⟩
  exact Nat.pow_le_pow_right (n := 2) (show 2 > 0 by decide) (show (32 - b).toNat ≤ 32 by omega)
theorem shl_mask (b : Int) (h : 0 ≤ b ∧ b ≤ 32) : 4294967295 * 2 ^ (32 - b).toNat % 4294967296 = 4294967296 - powR b := by
  obtain ⟨d, e1, e2, e3, e4, e5⟩ := pow_of b h
  have e6 : ((2 : Int) ^ (32 - b).toNat) = ((2 ^ d : Nat) : Int) := by rw [← e3]; rfl
  rw [e6, e3]
  omega
theorem andNot_mask (net b : Int) (hn : U32 net) (h : 0 ≤ b ∧ b ≤ 32) : bits .andNot .u32 net (4294967296 - powR b) = net % powR b := by
  obtain ⟨d, e1, e2, e3, e4, e5⟩ := pow_of b h
  rw [e3, u32_andNot net _ hn.1 (by have := hn.2; omega) (by omega) (by omega)]
  obtain ⟨n, rfl⟩ := Int.eq_ofNat_of_zero_le hn.1
  rw [show 4294967295 - ((4294967296 : Int) - ((2 ^ d : Nat) : Int)).toNat = 2 ^ d - 1 by omega, Int.toNat_natCast, Nat.and_two_pow_sub_one_eq_mod]
  rfl
theorem xor_mask (a n b : Int) (ha : U32 a) (hn : U32 n) (h : 0 ≤ b ∧ b ≤ 32) : (bits .and .u32 (bits .xor .u32 a n) (4294967296 - powR b) == 0) = (a / powR b == n / powR b) := by
  obtain ⟨d, e1, e2, e3, e4, e5⟩ := pow_of b h
  obtain ⟨x, rfl⟩ := Int.eq_ofNat_of_zero_le ha.1
  obtain ⟨y, rfl⟩ := Int.eq_ofNat_of_zero_le hn.1
  have hx : x < 2 ^ 32 := by have := ha.2; omega
  have hy : y < 2 ^ 32 := by have := hn.2; omega
  have hxy : x ^^^ y < 2 ^ 32 := Nat.xor_lt_two_pow hx hy
  rw [u32_xor_nat x y hx hy, e3, u32_and _ _ (by omega) (by omega) (by omega) (by omega), Int.toNat_natCast,
    show ((4294967296 : Int) - ((2 ^ d : Nat) : Int)).toNat = 2 ^ 32 - 2 ^ d by omega, nat_midmask 32 d _ e2, Nat.mod_eq_of_lt hxy]
  rw [Bool.eq_iff_iff, beq_iff_eq, beq_iff_eq]
  have q : (x ^^^ y) / 2 ^ d = x / 2 ^ d ^^^ y / 2 ^ d := Nat.xor_div_two_pow
  rw [q]
  have k1 : ((x : Int) / ((2 ^ d : Nat) : Int)) = ((x / 2 ^ d : Nat) : Int) := rfl
  have k2 : ((y : Int) / ((2 ^ d : Nat) : Int)) = ((y / 2 ^ d : Nat) : Int) := rfl
  rw [k1, k2]
  generalize x / 2 ^ d = u
  generalize y / 2 ^ d = v
  constructor
  · intro hz
    have h1 : (u ^^^ v) * 2 ^ d = 0 := by exact_mod_cast hz
    have h2 : u ^^^ v = 0 := (Nat.mul_eq_zero.1 h1).resolve_right (by omega)
    have h3 : u = v := by
      have := congrArg (· ^^^ v) h2
      simpa [Nat.xor_assoc] using this
    rw [h3]
  · intro hz
    have h3 : u = v := by exact_mod_cast hz
    rw [h3, Nat.xor_self, Nat.zero_mul]
    rfl
set_option maxRecDepth 100000 in
set_option maxHeartbeats 4000000 in
theorem ccounts (bits : Int) (hb : 0 ≤ bits ∧ bits ≤ 32) (w : World) (q : Int) (hq : 4294967296 - powR bits = q) :
    Calls Try.prog 20 #[.int .i64 bits] w fun e w' => e = .returned (.int .u32 q) ∧ w' = w := by
  have e1 : IntKind.i64.wrap (32 - bits) = 32 - bits := IntWalk.i64_in _ (by omega)
  go_enter Try.func20, Try.ntmps20
  have e2 := shl_mask bits hb
  go_wp2_with fail
  go_ret
  exact ⟨by rw [← hq, ← e2]; rfl, rfl⟩
set_option maxRecDepth 100000 in
set_option maxHeartbeats 4000000 in
theorem cin13 : InC13 := by
  intro addr net bits ha hn w q hq
  by_cases h0 : bits < 0
  · have HQ : Hid (q = false) := Go.Lib.hid (by rw [← hq]; unfold inN; rw [decide_eq_false (show ¬ 0 ≤ bits by omega)]; rfl)
    clear hq
    go_enter Try.func17, Try.ntmps17
    go_wp2
    go_ret
    exact ⟨by rw [HQ.out]; rfl, Below.refl _ _⟩
  by_cases h32 : 32 < bits
  · have HQ : Hid (q = false) := Go.Lib.hid (by rw [← hq]; unfold inN; rw [decide_eq_false (show ¬ bits ≤ 32 by omega), Bool.false_and, Bool.and_false])
    clear hq
    go_enter Try.func17, Try.ntmps17
    go_wp2
    go_ret
    exact ⟨by rw [HQ.out]; rfl, Below.refl _ _⟩
  have t0 : 0 ≤ bits := by omega
  have t1 : bits ≤ 32 := by omega
  have HR : Hid ((Go.bits .and .u32 (Go.bits .xor .u32 addr net) (4294967296 - powR bits) == 0) = q) := Go.Lib.hid (by rw [xor_mask addr net bits ha hn ⟨t0, t1⟩, ← hq]; unfold inN; rw [decide_eq_true t0, decide_eq_true t1]; rfl)
  clear h0 h32
  go_enter Try.func17, Try.ntmps17
  go_wp2_with (go_at_call 20; refine (ccounts bits ⟨t0, t1⟩ _ _ rfl).mono ?_; rintro e w2 ⟨rfl, rfl⟩; dsimp only)
  go_ret
  exact ⟨ret_bool HR.out, Below.refl _ _⟩
end Go.Proofs.Ytacohanlpgkdeaa
