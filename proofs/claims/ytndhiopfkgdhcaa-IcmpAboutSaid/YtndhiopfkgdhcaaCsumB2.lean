/- Contract of the check sum of bytes. -/
import Derived.Test.YtndhiopfkgdhcaaRows
import Derived.WalkKit
import Derived.ProofKit
import Derived.OpenShut
import Derived.Below
import Derived.Deep.QuietTactic
import Derived.BigQuiet
import Derived.OwnWalk
import Derived.Maps.AppendAt
import Derived.Test.YtndhiopfkgdhcaaPlain
import Derived.Test.YtndhiopfkgdhcaaMem
import Derived.Test.YtndhiopfkgdhcaaCsumB
namespace Go.Proofs.Ytndhiopfkgdhcaa
open Go.ChangeShapes Go.WideShapes Go.ChangeAt Go.RowKit


set_option maxRecDepth 100000 in
set_option maxHeartbeats 400000 in
theorem rof (A : Option Addr) (c : Nat) (l : List UInt8) (w : World) (h : Bs w w.heap.size A l) (hl : l.length ≤ 16777216) (hlc : l.length ≤ c) :
    Calls Try.prog 34 #[.slice A l.length c] w fun e w' => e = .returned (.int .u16 (65535 - fo (tot l))) ∧ Below w.heap.size w w' := by
  have f1 := fo_lo (tot l)
  have f2 := fo_hi (tot l)
  go_enter Try.func34, Try.ntmps34
  go_wp2_with (go_at_call 29; refine (rsum A c l _ h hl hlc).mono ?_; rintro e w1 ⟨rfl, hbel⟩)
  go_ret
  exact ⟨rfl, hbel⟩
end Go.Proofs.Ytndhiopfkgdhcaa
