/- Contracts of package csum's Join and Pseudo, and of the document's own. -/
import Derived.Test.YthikllbfkagdnaaRows
import Derived.WalkKit
import Derived.ProofKit
import Derived.OpenShut
import Derived.Below
import Derived.Deep.QuietTactic
import Derived.BigQuiet
import Derived.OwnWalk
import Derived.Maps.AppendAt
import Derived.Test.YthikllbfkagdnaaPlain
import Derived.Test.YthikllbfkagdnaaMem
import Derived.Test.YthikllbfkagdnaaCsumA
import Derived.Test.YthikllbfkagdnaaCsumB
import Derived.Test.YthikllbfkagdnaaCsumR
namespace Go.Proofs.Ythikllbfkagdnaa
open Go.ChangeShapes Go.WideShapes Go.ChangeAt Go.RowKit

set_option maxHeartbeats 400000 in
theorem cwords (a : Int) (h0 : 0 ≤ a) (h1 : a ≤ 4294967295) (w : World) :
    Calls Try.prog 38 #[.int .u32 a] w fun e w' => e = .returned (.int .u64 (a / 65536 + a % 65536)) ∧ w = w' := by
  have hn := u32_and a 65535 h0 (by omega) (by omega) (by omega)
  have e2 : ((a.toNat &&& (65535:Int).toNat : Nat) : Int) = a % 65536 := by
    show ((a.toNat &&& 65535 : Nat) : Int) = _
    rw [nat_mask16]; omega
  rw [e2] at hn
  clear e2
  go_enter Try.func38, Try.ntmps38
  go_wp2
  go_ret
  exact ⟨rfl, rfl⟩

set_option maxHeartbeats 400000 in
theorem cjoin (a b : Int) (ha : 0 ≤ a ∧ a ≤ 65535) (hb : 0 ≤ b ∧ b ≤ 65535) (w : World) :
    Calls Try.prog 34 #[.int .u16 a, .int .u16 b] w fun e w' => e = .returned (.int .u16 (fo (a + b))) ∧ w = w' := by
  obtain ⟨a0, a1⟩ := ha
  obtain ⟨b0, b1⟩ := hb
  go_enter Try.func34, Try.ntmps34
  go_wp2_with (go_at_call 37; refine (cfold _ (by omega) (by omega) _).mono ?_; rintro e w' ⟨rfl, rfl⟩)
  go_ret
  exact ⟨rfl, rfl⟩

set_option maxHeartbeats 400000 in
theorem cpseudo (s d p z : Int) (hs : 0 ≤ s ∧ s ≤ 4294967295) (hd : 0 ≤ d ∧ d ≤ 4294967295) (w : World) :
    Calls Try.prog 35 #[.int .u32 s, .int .u32 d, .int .i64 p, .int .i64 z] w fun e w' => e = .returned (.int .u16 (pseudo s d p z)) ∧ w = w' := by
  obtain ⟨s0, s1⟩ := hs
  obtain ⟨d0, d1⟩ := hd
  have hp := IntKind.wrap_u16 p
  have hz := IntKind.wrap_u16 z
  go_enter Try.func35, Try.ntmps35
  go_wp2_with (first
    | (go_at_call 38; refine (cwords _ (by omega) (by omega) _).mono ?_; rintro e w' ⟨rfl, rfl⟩)
    | (go_at_call 37; refine (cfold _ (by omega) (by omega) _).mono ?_; rintro e w' ⟨rfl, rfl⟩))
  go_ret
  exact ⟨rfl, rfl⟩

end Go.Proofs.Ythikllbfkagdnaa
