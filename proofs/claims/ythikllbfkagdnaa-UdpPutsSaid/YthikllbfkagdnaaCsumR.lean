/- The contract of the document's own Pseudo. -/
import Derived.Test.YthikllbfkagdnaaRows
import Derived.WalkKit
import Derived.ProofKit
import Derived.OpenShut
import Derived.Below
import Derived.Deep.QuietTactic
import Derived.BigQuiet
import Derived.OwnWalk
import Derived.Maps.AppendAt
import Derived.Test.YthikllbfkagdnaaPlain
import Derived.Test.YthikllbfkagdnaaMem
import Derived.Test.YthikllbfkagdnaaCsumB
namespace Go.Proofs.Ythikllbfkagdnaa
open Go.ChangeShapes Go.WideShapes Go.ChangeAt Go.RowKit

set_option maxRecDepth 100000 in
set_option maxHeartbeats 1000000 in
theorem rpseudo (s d p z : Int) (hs : 0 ≤ s ∧ s ≤ 4294967295) (hd : 0 ≤ d ∧ d ≤ 4294967295) (w : World) :
    Calls Try.prog 17 #[.int .u32 s, .int .u32 d, .int .i64 p, .int .i64 z] w fun e w' => e = .returned (.int .u16 (pseudo s d p z)) ∧ Below w.heap.size w w' := by
  obtain ⟨s0, s1⟩ := hs
  obtain ⟨d0, d1⟩ := hd
  have hp := IntKind.wrap_u16 p
  have hz := IntKind.wrap_u16 z
  have e1 := IntWalk.u16_in (s / 65536) (by omega)
  have e2 := IntWalk.u16_in (s % 65536) (by omega)
  have e3 := IntWalk.u16_in (d / 65536) (by omega)
  have e4 := IntWalk.u16_in (d % 65536) (by omega)
  obtain ⟨x1, hx1⟩ : ∃ x, x = s / 65536 := ⟨_, rfl⟩
  obtain ⟨x2, hx2⟩ : ∃ x, x = s % 65536 := ⟨_, rfl⟩
  obtain ⟨x3, hx3⟩ : ∃ x, x = d / 65536 := ⟨_, rfl⟩
  obtain ⟨x4, hx4⟩ : ∃ x, x = d % 65536 := ⟨_, rfl⟩
  obtain ⟨x5, hx5⟩ : ∃ x, x = p % 65536 := ⟨_, rfl⟩
  obtain ⟨x6, hx6⟩ : ∃ x, x = z % 65536 := ⟨_, rfl⟩
  have b1 : 0 ≤ x1 ∧ x1 ≤ 65535 := by omega
  have b2 : 0 ≤ x2 ∧ x2 ≤ 65535 := by omega
  have b3 : 0 ≤ x3 ∧ x3 ≤ 65535 := by omega
  have b4 : 0 ≤ x4 ∧ x4 ≤ 65535 := by omega
  have b5 : 0 ≤ x5 ∧ x5 ≤ 65535 := by omega
  have b6 : 0 ≤ x6 ∧ x6 ≤ 65535 := by omega
  have HP : Hid (fo (fo (fo (fo (fo (fo x1 + x2) + x3) + x4) + x5) + x6) = pseudo s d p z) := by
    show _ = _
    unfold pseudo
    rw [← hx1, ← hx2, ← hx3, ← hx4, ← hx5, ← hx6, fo_fo x1 x2 (by omega) (by omega), fo_fo _ x3 (by omega) (by omega), fo_fo _ x4 (by omega) (by omega), fo_fo _ x5 (by omega) (by omega), fo_fo _ x6 (by omega) (by omega)]
    congr 1; omega
  rw [← hx1] at e1
  rw [← hx2] at e2
  rw [← hx3] at e3
  rw [← hx4] at e4
  rw [← hx5] at hp
  rw [← hx6] at hz
  have g1 := fo_lo x1
  have g1' := fo_hi x1
  have g2 := fo_lo (fo x1 + x2)
  have g2' := fo_hi (fo x1 + x2)
  have g3 := fo_lo (fo (fo x1 + x2) + x3)
  have g3' := fo_hi (fo (fo x1 + x2) + x3)
  have g4 := fo_lo (fo (fo (fo x1 + x2) + x3) + x4)
  have g4' := fo_hi (fo (fo (fo x1 + x2) + x3) + x4)
  have g5 := fo_lo (fo (fo (fo (fo x1 + x2) + x3) + x4) + x5)
  have g5' := fo_hi (fo (fo (fo (fo x1 + x2) + x3) + x4) + x5)
  have d1 : s / 65536 = x1 := hx1.symm
  have d2 : s % 65536 = x2 := hx2.symm
  have d3 : d / 65536 = x3 := hx3.symm
  have d4 : d % 65536 = x4 := hx4.symm
  clear hx1 hx2 hx3 hx4 hx5 hx6
  go_enter Try.func17, Try.ntmps17
  go_wp2
  refine wp_loop_rounds 7 ?_
  rw [rounds_succ]
  go_wp2_with (go_at_call 16; refine (rjoin _ _ (by omega) (by omega) _).mono ?_; rintro e w' ⟨rfl, rfl⟩)
  rw [rounds_succ]
  go_wp2_with (go_at_call 16; refine (rjoin _ _ (by omega) (by omega) _).mono ?_; rintro e w' ⟨rfl, rfl⟩)
  rw [rounds_succ]
  go_wp2_with (go_at_call 16; refine (rjoin _ _ (by omega) (by omega) _).mono ?_; rintro e w' ⟨rfl, rfl⟩)
  rw [rounds_succ]
  go_wp2_with (go_at_call 16; refine (rjoin _ _ (by omega) (by omega) _).mono ?_; rintro e w' ⟨rfl, rfl⟩)
  rw [rounds_succ]
  go_wp2_with (go_at_call 16; refine (rjoin _ _ (by omega) (by omega) _).mono ?_; rintro e w' ⟨rfl, rfl⟩)
  rw [rounds_succ]
  go_wp2_with (go_at_call 16; refine (rjoin _ _ (by omega) (by omega) _).mono ?_; rintro e w' ⟨rfl, rfl⟩)
  rw [rounds_succ]
  go_wp2
  go_ret
  exact ⟨ret_int HP.out, (Below.refl _ _).alloc (Nat.le_refl _) _⟩
end Go.Proofs.Ythikllbfkagdnaa
