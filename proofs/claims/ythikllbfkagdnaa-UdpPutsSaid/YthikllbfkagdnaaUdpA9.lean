/- The contract of package udp's Same. -/
import Derived.Test.YthikllbfkagdnaaUdpA8
import Derived.Test.YthikllbfkagdnaaEqual
namespace Go.Proofs.Ythikllbfkagdnaa
open Go.ChangeShapes Go.WideShapes Go.ChangeAt Go.RowKit
set_option linter.unusedVariables false
set_option linter.unusedSimpArgs false

set_option maxRecDepth 100000 in
set_option maxHeartbeats 4000000 in
theorem usameU (u : Ud) (Ab : Option Addr) (cb : Nat) (v : Ud) (Ab' : Option Addr) (cb' : Nat) (B : Nat) (w : World) (hB : B ≤ w.heap.size) (hI : Bs w B Ab u.body) (hJ : Bs w B Ab' v.body) :
    Calls Try.prog 12 #[udV u Ab cb, udV v Ab' cb'] w fun e w' => e = .returned (.bool (sameU u v)) ∧ Below w.heap.size w w' := by
  have H1 := Go.Lib.hid hI
  have H2 := Go.Lib.hid hJ
  clear hI hJ
  unfold sameU
  go_enter Try.func12, Try.ntmps12
  go_wp2_with (go_at_call 25; refine (cequal Ab _ cb u.body Ab' _ cb' v.body B B _ rfl rfl (H1.out.below (by repeat (first | exact Below.refl _ _ | refine Below.alloc ?_ (by first | exact hB | (simp; omega)) _))) (H2.out.below (by repeat (first | exact Below.refl _ _ | refine Below.alloc ?_ (by first | exact hB | (simp; omega)) _)))).mono ?_; rintro e w' ⟨rfl, rfl⟩; dsimp only)
  all_goals (go_ret; refine ⟨ret_bool ?_, by repeat (first | exact Below.refl _ _ | refine Below.alloc ?_ (by simp) _)⟩)
  all_goals (simp [*]; done)
end Go.Proofs.Ythikllbfkagdnaa
