/- Contracts of package csum's functions on numbers, and of the document's own answers for them. -/
import Derived.Test.YtbbomonlkmgpeaaRows
import Derived.WalkKit
import Derived.ProofKit
import Derived.OpenShut
import Derived.Test.YtbbomonlkmgpeaaPlain
import Derived.Test.YtbbomonlkmgpeaaMem
namespace Go.Proofs.Ytbbomonlkmgpeaa
open Go.ChangeShapes Go.WideShapes Go.ChangeAt Go.RowKit


set_option maxHeartbeats 400000 in
theorem cfold (n : Int) (h0 : 0 ≤ n) (h1 : n ≤ 4611686018427387904) (w : World) :
    Calls Try.prog 19 #[.int .u64 n] w fun e w' => e = .returned (.int .u16 (fo n)) ∧ w = w' := by
  go_enter Try.func19, Try.ntmps19
  go_wp2
  go_loop [0] (fun t => ∃ m : Int, 0 ≤ m ∧ m ≤ 4611686018427387904 ∧ Hid (fo m = fo n) ∧ t = .int .u64 m) (fun t => (intOf t).toNat)
  case atStart => exact ⟨n, h0, h1, rfl, rfl⟩
  case round =>
    obtain ⟨m, m0, m1, hm, rfl⟩ := hrel
    by_cases hlt : 65535 < m
    · have hn := u64_and m 65535 m0 (by omega) (by omega) (by omega)
      have e2 : ((m.toNat &&& (65535:Int).toNat : Nat) : Int) = m % 65536 := by
        show ((m.toNat &&& 65535 : Nat) : Int) = _
        rw [nat_mask16]; omega
      rw [e2] at hn
      clear e2
      go_wp2
      go_round
      case rel => exact ⟨_, by omega, by omega, (fo_step m hlt).trans hm.out, rfl⟩
      case measure => simp [intOf]; omega
    · go_wp2
      go_ret
      exact ⟨ret_int (by rw [← hm.out, fo_small m m0 (by omega)]), rfl⟩

set_option maxHeartbeats 400000 in
theorem cwords (a : Int) (h0 : 0 ≤ a) (h1 : a ≤ 4294967295) (w : World) :
    Calls Try.prog 21 #[.int .u32 a] w fun e w' => e = .returned (.int .u64 (a / 65536 + a % 65536)) ∧ w = w' := by
  have hn := u32_and a 65535 h0 (by omega) (by omega) (by omega)
  have e2 : ((a.toNat &&& (65535:Int).toNat : Nat) : Int) = a % 65536 := by
    show ((a.toNat &&& 65535 : Nat) : Int) = _
    rw [nat_mask16]; omega
  rw [e2] at hn
  clear e2
  go_enter Try.func21, Try.ntmps21
  go_wp2
  go_ret
  exact ⟨rfl, rfl⟩

set_option maxHeartbeats 400000 in
theorem cjoin (a b : Int) (ha : 0 ≤ a ∧ a ≤ 65535) (hb : 0 ≤ b ∧ b ≤ 65535) (w : World) :
    Calls Try.prog 13 #[.int .u16 a, .int .u16 b] w fun e w' => e = .returned (.int .u16 (fo (a + b))) ∧ w = w' := by
  obtain ⟨a0, a1⟩ := ha
  obtain ⟨b0, b1⟩ := hb
  go_enter Try.func13, Try.ntmps13
  go_wp2_with (go_at_call 19; refine (cfold _ (by omega) (by omega) _).mono ?_; rintro e w' ⟨rfl, rfl⟩)
  go_ret
  exact ⟨rfl, rfl⟩

/-- what a check sum is when a word that was old is now another. -/
def mend (c o n : Int) : Int := 65535 - fo (fo (65535 - c + (65535 - o)) + n)
theorem mend_lo (c o n : Int) : 0 ≤ mend c o n := by unfold mend; have := fo_hi (fo (65535 - c + (65535 - o)) + n); omega
theorem mend_hi (c o n : Int) : mend c o n ≤ 65535 := by unfold mend; have := fo_lo (fo (65535 - c + (65535 - o)) + n); omega

set_option maxHeartbeats 400000 in
theorem cmend (c o n : Int) (hc : 0 ≤ c ∧ c ≤ 65535) (ho : 0 ≤ o ∧ o ≤ 65535) (hn : 0 ≤ n ∧ n ≤ 65535) (w : World) :
    Calls Try.prog 15 #[.int .u16 c, .int .u16 o, .int .u16 n] w fun e w' => e = .returned (.int .u16 (mend c o n)) ∧ w = w' := by
  obtain ⟨c0, c1⟩ := hc
  obtain ⟨o0, o1⟩ := ho
  obtain ⟨n0, n1⟩ := hn
  have f1 := fo_lo (65535 - c + (65535 - o))
  have f2 := fo_hi (65535 - c + (65535 - o))
  have g1 := fo_lo (fo (65535 - c + (65535 - o)) + n)
  have g2 := fo_hi (fo (65535 - c + (65535 - o)) + n)
  have x1 := u16_not c c0 c1
  have x2 := u16_not o o0 o1
  have x3 := u16_not _ g1 g2
  have k1 : IntKind.u16.signed = false := rfl
  have k2 : IntKind.u16.max = 65535 := rfl
  go_enter Try.func15, Try.ntmps15
  go_wp2_with (go_at_call 13; refine (cjoin _ _ (by omega) (by omega) _).mono ?_; rintro e w' ⟨rfl, rfl⟩)
  go_ret
  exact ⟨rfl, rfl⟩

def pseudo (s d p z : Int) : Int := fo (s / 65536 + s % 65536 + (d / 65536 + d % 65536) + p % 65536 + z % 65536)

set_option maxHeartbeats 400000 in
theorem cpseudo (s d p z : Int) (hs : 0 ≤ s ∧ s ≤ 4294967295) (hd : 0 ≤ d ∧ d ≤ 4294967295) (w : World) :
    Calls Try.prog 17 #[.int .u32 s, .int .u32 d, .int .i64 p, .int .i64 z] w fun e w' => e = .returned (.int .u16 (pseudo s d p z)) ∧ w = w' := by
  obtain ⟨s0, s1⟩ := hs
  obtain ⟨d0, d1⟩ := hd
  have hp := IntKind.wrap_u16 p
  have hz := IntKind.wrap_u16 z
  go_enter Try.func17, Try.ntmps17
  go_wp2_with (first
    | (go_at_call 21; refine (cwords _ (by omega) (by omega) _).mono ?_; rintro e w' ⟨rfl, rfl⟩)
    | (go_at_call 19; refine (cfold _ (by omega) (by omega) _).mono ?_; rintro e w' ⟨rfl, rfl⟩))
  go_ret
  exact ⟨rfl, rfl⟩

/-! the document's own answers -/
set_option maxHeartbeats 400000 in
theorem rjoin (a b : Int) (ha : 0 ≤ a ∧ a ≤ 65535) (hb : 0 ≤ b ∧ b ≤ 65535) (w : World) :
    Calls Try.prog 14 #[.int .u16 a, .int .u16 b] w fun e w' => e = .returned (.int .u16 (fo (a + b))) ∧ w = w' := by
  obtain ⟨a0, a1⟩ := ha
  obtain ⟨b0, b1⟩ := hb
  by_cases h : 65535 < a + b
  · go_enter Try.func14, Try.ntmps14
    go_wp2
    go_ret
    exact ⟨ret_int (by rw [← fo_sub _ h (by omega)]), rfl⟩
  · go_enter Try.func14, Try.ntmps14
    go_wp2
    go_ret
    exact ⟨ret_int (by rw [fo_small _ (by omega) (by omega)]), rfl⟩

set_option maxHeartbeats 400000 in
theorem rmend (c o n : Int) (hc : 0 ≤ c ∧ c ≤ 65535) (ho : 0 ≤ o ∧ o ≤ 65535) (hn : 0 ≤ n ∧ n ≤ 65535) (w : World) :
    Calls Try.prog 16 #[.int .u16 c, .int .u16 o, .int .u16 n] w fun e w' => e = .returned (.int .u16 (mend c o n)) ∧ w = w' := by
  obtain ⟨c0, c1⟩ := hc
  obtain ⟨o0, o1⟩ := ho
  obtain ⟨n0, n1⟩ := hn
  have f1 := fo_lo (65535 - c + (65535 - o))
  have f2 := fo_hi (65535 - c + (65535 - o))
  have g1 := fo_lo (fo (65535 - c + (65535 - o)) + n)
  have g2 := fo_hi (fo (65535 - c + (65535 - o)) + n)
  go_enter Try.func16, Try.ntmps16
  go_wp2_with (go_at_call 14; refine (rjoin _ _ (by omega) (by omega) _).mono ?_; rintro e w' ⟨rfl, rfl⟩)
  go_ret
  exact ⟨rfl, rfl⟩

end Go.Proofs.Ytbbomonlkmgpeaa
