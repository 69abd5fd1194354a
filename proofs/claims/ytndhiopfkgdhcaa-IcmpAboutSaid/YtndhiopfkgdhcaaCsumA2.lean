/- Contract of the check sum of bytes. -/
import Derived.Test.YtndhiopfkgdhcaaRows
import Derived.WalkKit
import Derived.ProofKit
import Derived.OpenShut
import Derived.Below
import Derived.Deep.QuietTactic
import Derived.BigQuiet
import Derived.OwnWalk
import Derived.Maps.AppendAt
import Derived.Test.YtndhiopfkgdhcaaPlain
import Derived.Test.YtndhiopfkgdhcaaMem
import Derived.Test.YtndhiopfkgdhcaaCsumA
namespace Go.Proofs.Ytndhiopfkgdhcaa
open Go.ChangeShapes Go.WideShapes Go.ChangeAt Go.RowKit


set_option maxHeartbeats 400000 in
theorem cof (A : Option Addr) (c : Nat) (l : List UInt8) (B : Nat) (w : World) (h : Bs w B A l) (hl : l.length ≤ 16777216) (hlc : l.length ≤ c) (hc : c ≤ maxLen) :
    Calls Try.prog 33 #[.slice A l.length c] w fun e w' => e = .returned (.int .u16 (65535 - fo (tot l))) ∧ ∃ n, w' = w.drewN n := by
  have x1 := u16_not _ (fo_lo (tot l)) (fo_hi (tot l))
  have k1 : IntKind.u16.signed = false := rfl
  have k2 : IntKind.u16.max = 65535 := rfl
  go_enter Try.func33, Try.ntmps33
  go_wp2_with (go_at_call 37; refine (csum A c l B _ h hl hlc hc).mono ?_; rintro e w' ⟨rfl, n, rfl⟩)
  go_ret
  exact ⟨rfl, _, rfl⟩
end Go.Proofs.Ytndhiopfkgdhcaa
