/- The contract of package udp's mayBePut. -/
import Derived.Test.YthikllbfkagdnaaUdpA2
import Derived.Deep.RegionHeld3
namespace Go.Proofs.Ythikllbfkagdnaa
open Go.ChangeShapes Go.WideShapes Go.ChangeAt Go.RowKit
set_option linter.unusedVariables false
set_option linter.unusedSimpArgs false

theorem uup_b (n m : Int) (b : Bool) (hb : upB n m = b) (w : World) :
    Calls Try.prog 30 #[.int .i64 n, .int .i64 m] w fun e w' => e = .returned (.bool b) ∧ w = w' := hb ▸ uupTo n m w
theorem usizeOf_x (u : Ud) (Ab : Option Addr) (cb : Nat) (W w : World) (n : Nat) (hn : 8 + u.body.length = n) (hl : u.body.length ≤ 16777216) (x : Below W.heap.size W w) :
    Calls Try.prog 31 #[udV u Ab cb] w fun e w' => e = .returned (.int .i64 n) ∧ Below W.heap.size W w' :=
  (usizeOf u Ab cb w n hn hl).mono fun _ _ ⟨a, b⟩ => ⟨a, x.trans (b.mono x.size)⟩
theorem mayU_up (u : Ud) : mayU u = (upB u.sport 65535 && (upB u.dport 65535 && decide (u.body.length ≤ 65527))) := rfl

set_option maxRecDepth 100000 in
set_option maxHeartbeats 4000000 in
theorem umay (u : Ud) (Ab : Option Addr) (cb : Nat) (w : World) (b : Bool) (hb : mayU u = b) (hl : u.body.length ≤ 16777216) :
    Calls Try.prog 19 #[udV u Ab cb] w fun e w' => e = .returned (.bool b) ∧ Below w.heap.size w w' := by
  rw [mayU_up] at hb
  obtain ⟨u1, h1⟩ : ∃ u1 : Bool, upB u.sport 65535 = u1 := ⟨_, rfl⟩
  obtain ⟨u2, h2⟩ : ∃ u2 : Bool, upB u.dport 65535 = u2 := ⟨_, rfl⟩
  rw [h1, h2] at hb
  have H1 := Go.Lib.hid h1
  have H2 := Go.Lib.hid h2
  have HB := Go.Lib.hid hb
  obtain ⟨n, hn⟩ : ∃ n : Nat, 8 + u.body.length = n := ⟨_, rfl⟩
  have HN := Go.Lib.hid hn
  have b0 : Below w.heap.size w (w.alloc (udO u Ab cb)) := (Below.refl _ _).alloc (Nat.le_refl _) _
  have s0 : w.heap.size < (w.alloc (udO u Ab cb)).heap.size := by simp
  clear h1 h2 hb hn
  cases u1
  · have HF : Hid (b = false) := Go.Lib.hid (by rw [← HB.out]; rfl)
    go_enter Try.func19, Try.ntmps19
    go_wp2_with fail
    refine (uup_b _ _ false H1.out _).mono ?_
    rintro e w' ⟨rfl, rfl⟩
    dsimp only
    go_wp2
    go_ret
    exact ⟨ret_bool HF.out.symm, b0⟩
  cases u2
  · have HF : Hid (b = false) := Go.Lib.hid (by rw [← HB.out]; rfl)
    go_enter Try.func19, Try.ntmps19
    go_wp2_with fail
    refine (uup_b _ _ true H1.out _).mono ?_
    rintro e w' ⟨rfl, rfl⟩
    dsimp only
    go_wp2_with fail
    refine (uup_b _ _ false H2.out _).mono ?_
    rintro e w' ⟨rfl, rfl⟩
    dsimp only
    go_wp2
    go_ret
    exact ⟨ret_bool HF.out.symm, b0⟩
  · have HF : Hid (b = decide ((n : Int) ≤ 65535)) := Go.Lib.hid (by have := HN.out; rw [← HB.out]; simp; omega)
    go_enter Try.func19, Try.ntmps19
    go_wp2_with fail
    refine (uup_b _ _ true H1.out _).mono ?_
    rintro e w' ⟨rfl, rfl⟩
    dsimp only
    go_wp2_with fail
    refine (uup_b _ _ true H2.out _).mono ?_
    rintro e w' ⟨rfl, rfl⟩
    dsimp only
    go_wp2_with fail
    refine (usizeOf_x u Ab cb _ _ n HN.out hl (Below.refl _ _)).mono ?_
    rintro e w3 ⟨rfl, hb3⟩
    dsimp only
    go_wp2
    go_ret
    exact ⟨ret_bool HF.out.symm, b0.trans (hb3.mono b0.size)⟩
end Go.Proofs.Ythikllbfkagdnaa
