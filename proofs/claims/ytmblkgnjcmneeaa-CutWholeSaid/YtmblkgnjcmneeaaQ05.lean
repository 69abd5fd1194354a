/- Lemmas, several texts in one. -/
import Derived.Test.YtmblkgnjcmneeaaQ02
import Derived.Test.YtmblkgnjcmneeaaQ03
import Derived.Test.YtmblkgnjcmneeaaQ04
/- Contracts: equal bytes, and package ip's Same. -/
namespace Go.Proofs.Ytmblkgnjcmneeaa
open Go.ChangeShapes Go.WideShapes Go.ChangeAt Go.RowKit
set_option linter.unusedVariables false

set_option maxRecDepth 100000 in
set_option maxHeartbeats 2000000 in
theorem csameP (p q : Pk) (Ao : Option Addr) (co : Nat) (Ab : Option Addr) (cb : Nat) (Ao' : Option Addr) (co' : Nat) (Ab' : Option Addr) (cb' : Nat) (w : World)
    (ho : Bs w w.heap.size Ao p.opts) (hb : Bs w w.heap.size Ab p.body) (ho' : Bs w w.heap.size Ao' q.opts) (hb' : Bs w w.heap.size Ab' q.body) :
    Calls Try.prog 14 #[pkV p Ao co Ab cb, pkV q Ao' co' Ab' cb'] w fun e w' => e = .returned (.bool (sameB p q)) ∧ Below w.heap.size w w' := by
  have H1 := Go.Lib.hid ho
  have H2 := Go.Lib.hid hb
  have H3 := Go.Lib.hid ho'
  have H4 := Go.Lib.hid hb'
  clear ho hb ho' hb'
  unfold sameB
  go_enter Try.func14, Try.ntmps14
  go_wp2_with (first
    | (go_at_call_of 25 (Value.slice Ao p.opts.length co); refine (cequal Ao _ co p.opts Ao' _ co' q.opts w.heap.size w.heap.size _ rfl rfl (H1.out.below (by repeat (first | exact Below.refl _ _ | refine Below.alloc ?_ (by simp) _))) (H3.out.below (by repeat (first | exact Below.refl _ _ | refine Below.alloc ?_ (by simp) _)))).mono ?_; rintro e w' ⟨rfl, rfl⟩)
    | (go_at_call_of 25 (Value.slice Ab p.body.length cb); refine (cequal Ab _ cb p.body Ab' _ cb' q.body w.heap.size w.heap.size _ rfl rfl (H2.out.below (by repeat (first | exact Below.refl _ _ | refine Below.alloc ?_ (by simp) _))) (H4.out.below (by repeat (first | exact Below.refl _ _ | refine Below.alloc ?_ (by simp) _)))).mono ?_; rintro e w' ⟨rfl, rfl⟩))
  all_goals (go_ret; refine ⟨ret_bool ?_, ((Below.refl _ _).alloc (Nat.le_refl _) _).alloc (by simp) _⟩)
  all_goals (simp [*]; done)
end Go.Proofs.Ytmblkgnjcmneeaa
