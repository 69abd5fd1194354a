/- The rules' fixed answer, from the contracts. -/
import Derived.Test.YtacohanlpgkdeaaRulesC
namespace Go.Proofs.Ytacohanlpgkdeaa
open Go.ChangeShapes Go.WideShapes Go.ChangeAt Go.RowKit
set_option linter.unusedVariables false
set_option linter.unusedSimpArgs false

/-- the first hundred. -/
theorem RusAt.first100 {w : World} {L : List Ru} {A : Option Addr} {c : Nat} (h : RusAt w L A c) : ∃ M : List Ru, L.take 100 = M ∧ M.length ≤ 100 ∧ RusAt w M A c ∧ (if (100 : Int) < (L.length : Int) then (100 : Int) else (L.length : Int)) = (M.length : Int) ∧ (M.length : Int) ≤ (c : Int) := by
  have hlc := h.len
  have hl : (L.take 100).length = min 100 L.length := List.length_take
  refine ⟨_, rfl, by omega, h.take 100, ?_, by omega⟩
  split <;> omega
abbrev uA1 : Ru := ⟨1, -1, 0, 0, 0, 0, 0, 0, 65535, 1⟩
abbrev uA2 : Ru := ⟨-1, -1, 0, 0, 0, 0, 0, 0, 65535, 2⟩
abbrev uT : Tp := ⟨6, 0, 0, 0, 0⟩
theorem awake_facts14 : askU [uA1, uA2] 0 3 uT = (2, 1) ∧ askU [uA1, uA2] 1 3 uT = (1, 0) ∧ rightU [uA1, uA2] = true := ⟨by decide, by decide, by decide⟩
theorem rng_uT : RngTp uT := ⟨by decide, by decide, by decide, by decide⟩
set_option maxRecDepth 100000 in
set_option maxHeartbeats 4000000 in
theorem cawake14 (kQ : AskC14) (kR : RightC14) : AwakeC14 := by
  intro w
  obtain ⟨f1, f2, f4⟩ := awake_facts14
  have F1 := Go.Lib.hid f1
  have F2 := Go.Lib.hid f2
  have F4 := Go.Lib.hid f4
  have KQ := Go.Lib.hid kQ
  have KR := Go.Lib.hid kR
  have y0 : Below w.heap.size w (w.alloc (.cells #[.int .i64 1, .int .i64 (-1), .int .i64 0, .int .u32 0, .int .u32 0, .int .i64 0, .int .i64 0, .int .i64 0, .int .i64 65535, .int .i64 1, .int .i64 (-1), .int .i64 (-1), .int .i64 0, .int .u32 0, .int .u32 0, .int .i64 0, .int .i64 0, .int .i64 0, .int .i64 65535, .int .i64 2] 25)) := (Below.refl _ _).alloc (Nat.le_refl _) _
  have hb := Bxo.made w 25 [.int .i64 1, .int .i64 (-1), .int .i64 0, .int .u32 0, .int .u32 0, .int .i64 0, .int .i64 0, .int .i64 0, .int .i64 65535, .int .i64 1, .int .i64 (-1), .int .i64 (-1), .int .i64 0, .int .u32 0, .int .u32 0, .int .i64 0, .int .i64 0, .int .i64 0, .int .i64 65535, .int .i64 2]
  clear f1 f2 f4 kQ kR
  go_enter Try.func7, Try.ntmps7
  go_upto_region 2 with fail
  generalize w.alloc (.cells #[.int .i64 1, .int .i64 (-1), .int .i64 0, .int .u32 0, .int .u32 0, .int .i64 0, .int .i64 0, .int .i64 0, .int .i64 65535, .int .i64 1, .int .i64 (-1), .int .i64 (-1), .int .i64 0, .int .u32 0, .int .u32 0, .int .i64 0, .int .i64 0, .int .i64 0, .int .i64 65535, .int .i64 2] 25) = W at *
  have HL : Hid (RusAt W [uA1, uA2] (some ⟨w.heap.size, 0, none⟩) 2) := Go.Lib.hid ⟨Nat.le_refl _, by omega, (fun e => by cases e), .inr ⟨_, rfl, hb.at⟩, fun r hr => by
    simp only [List.mem_cons, List.not_mem_nil, or_false] at hr
    rcases hr with rfl | rfl <;> exact ⟨by decide, by decide⟩⟩
  clear hb
  go_wp2_with (first
    | (go_at_call_of 8 ([Value.int IntKind.i64 0, Value.int IntKind.i64 3, Value.agg #[Value.int IntKind.i64 6, Value.int IntKind.u32 0, Value.int IntKind.i64 0, Value.int IntKind.u32 0, Value.int IntKind.i64 0]]); refine (KQ.out [uA1, uA2] _ 2 2 rfl (by decide) 0 3 uT rng_uT W HL.out _ F1.out).mono ?_; rintro e w2 ⟨rfl, y2⟩; have x2 := y0.trans (y2.mono y0.size); have HL2 := Go.Lib.hid (HL.out.at y2); dsimp only)
    | (go_at_call 8; refine (KQ.out [uA1, uA2] _ 2 2 rfl (by decide) 1 3 uT rng_uT w2 HL2.out _ F2.out).mono ?_; rintro e w3 ⟨rfl, y3⟩; have x3 := x2.trans (y3.mono x2.size); have HL3 := Go.Lib.hid (HL2.out.at y3); dsimp only)
    | (go_at_call 10; refine (KR.out [uA1, uA2] _ 2 2 rfl (by decide) w3 HL3.out _ F4.out).mono ?_; rintro e w6 ⟨rfl, y6⟩; have x6 := x3.trans (y6.mono x3.size); dsimp only))
  go_ret
  exact ⟨rfl, x6⟩
end Go.Proofs.Ytacohanlpgkdeaa
