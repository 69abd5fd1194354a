/- Statements of layer 11: what is not asleep. -/
import Derived.Test.YtebmomanpkmloaaWheelC
import Derived.WalkKit
import Derived.ProofKit
import Derived.Deep.RegionHeld3
import Derived.Deep.DeepCutAuto
namespace Go.Proofs.Ytebmomanpkmloaa
open Go.ChangeShapes Go.WideShapes Go.ChangeAt Go.RowKit
set_option linter.unusedVariables false
set_option linter.unusedSimpArgs false

theorem DueAt.keep {w w' w'' : World} {F : Nat → Prop} {l : List Int} {A : Option Addr} {c : Nat} (h : DueAt w w' F l A c) (m : Moves w' w'' F) : InsAt .i64 w'' l A c :=
  h.ins.keepB fun ad e => m.block _ (h.apart ad e).2.1 (h.apart ad e).2.2
theorem addr_zero (a : Addr) : a.add 0 = a := by unfold Addr.add; simp
theorem awake_facts11 : ∃ x1 x2 x3 x4 : Wh, setH wh0 7 5 = (x1, 0) ∧ setH x1 8 3 = (x2, 0) ∧ tickH x2 4 = (x3, [8], 0) ∧ tickH x3 9 = (x4, [7], 0) := by
  refine ⟨⟨[⟨7, 5⟩], 0⟩, ⟨[⟨7, 5⟩, ⟨8, 3⟩], 0⟩, ⟨[⟨7, 5⟩], 4⟩, ⟨[], 9⟩, rfl, rfl, ?_, ?_⟩
  · have h : dueA [⟨7, 5⟩, ⟨8, 3⟩] 4 = [⟨8, 3⟩] := due_is (List.Perm.refl _) (List.pairwise_singleton _ _)
    unfold tickH
    rw [if_neg (by decide)]
    dsimp only
    rw [h]
    rfl
  · have h : dueA [⟨7, 5⟩] 9 = [⟨7, 5⟩] := due_is (List.Perm.refl _) (List.pairwise_singleton _ _)
    unfold tickH
    rw [if_neg (by decide)]
    dsimp only
    rw [h]
    rfl
set_option maxRecDepth 100000 in
set_option maxHeartbeats 8000000 in
theorem cawake11 (K : WheelC) : AwakeC11 := by
  intro w
  obtain ⟨s1, s2, s3, s4, a1, a2, a3, a4⟩ := awake_facts11
  have q1 := Go.Lib.hid a1
  have q2 := Go.Lib.hid a2
  have q3 := Go.Lib.hid a3
  have q4 := Go.Lib.hid a4
  have x0 : Below w.heap.size w w := Below.refl _ _
  clear a1 a2 a3 a4
  go_enter Try.func7, Try.ntmps7
  go_upto_region 6 with (first
    | (go_at_call 8; refine (K.new w).mono ?_; rintro e w1 ⟨ad, F1, rfl, r1, f1, y1⟩; have H1 := Go.Lib.hid (WhI.made x0 r1 f1 y1); clear r1 f1 y1; dsimp only)
    | (go_at_call_of 10 (Value.int .i64 7); refine (K.set H1.out.rep 7 5 (s1, 0) q1.out).mono ?_; rintro e w2 ⟨F2, rfl, r2, n2, m2⟩; have H2 := Go.Lib.hid (H1.out.turn r2 n2 m2); clear r2 n2 m2; dsimp only)
    | (go_at_call_of 10 (Value.int .i64 8); refine (K.set H2.out.rep 8 3 (s2, 0) q2.out).mono ?_; rintro e w3 ⟨F3, rfl, r3, n3, m3⟩; have H3 := Go.Lib.hid (H2.out.turn r3 n3 m3); clear r3 n3 m3; dsimp only)
    | (go_at_call_of 14 (Value.int .i64 4); refine (K.tick H3.out.rep 4 (s3, [8], 0) q3.out).mono ?_; rintro e w4 ⟨F4, A4, c4, rfl, d4, r4, n4, m4⟩; have H4 := Go.Lib.hid (H3.out.turn r4 n4 m4); have D4 := Go.Lib.hid d4; clear r4 n4 m4 d4; dsimp only)
    | (go_at_call_of 14 (Value.int .i64 9); refine (K.tick H4.out.rep 9 (s4, [7], 0) q4.out).mono ?_; rintro e w5 ⟨F5, A5, c5, rfl, d5, r5, n5, m5⟩; have H5 := Go.Lib.hid (H4.out.turn r5 n5 m5); have D5 := Go.Lib.hid (D4.out.keep m5); have E5 := Go.Lib.hid d5.ins; clear r5 n5 m5 d5; dsimp only))
  obtain ⟨ada, rfl, hca⟩ := D5.out.cell (i := 0) (show 0 < 1 by omega)
  obtain ⟨adb, rfl, hcb⟩ := E5.out.cell (i := 0) (show 0 < 1 by omega)
  have ca := hca w5 (Below.refl _ _)
  have cb := hcb w5 (Below.refl _ _)
  rw [addr_zero] at ca cb
  go_wp2
  go_ret
  exact ⟨rfl, H5.out.below⟩
end Go.Proofs.Ytebmomanpkmloaa
