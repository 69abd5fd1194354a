/- What package route's functions owe, as propositions. -/
import Derived.Test.YtalmknbcfgndkaaRouteR2
namespace Go.Proofs.Ytalmknbcfgndkaa
open Go.ChangeShapes Go.WideShapes Go.ChangeAt Go.RowKit
set_option linter.unusedVariables false
set_option linter.unusedSimpArgs false

def U32 (n : Int) : Prop := 0 ≤ n ∧ n ≤ 4294967295
def InC13 : Prop := ∀ (addr net bits : Int), U32 addr → U32 net → ∀ (w : World) (q : Bool), inN addr net bits = q → Calls Try.prog 14 #[.int .u32 addr, .int .u32 net, .int .i64 bits] w fun e w' => e = .returned (.bool q) ∧ Below w.heap.size w w'
def RightC13 : Prop := ∀ (l : List Rt) (A : Option Addr) (c N : Nat), l.length = N → N ≤ 100 → ∀ (w : World), RtsAt w l A c → ∀ (q : Bool), rightR l = q → Calls Try.prog 10 #[.slice A N c] w fun e w' => e = .returned (.bool q) ∧ Below w.heap.size w w'
def FindC13 : Prop := ∀ (l : List Rt) (A : Option Addr) (c N : Nat), l.length = N → N ≤ 100 → ∀ (addr : Int), U32 addr → ∀ (w : World), RtsAt w l A c → ∀ (q : Rt × Bool), findR l addr = q → Calls Try.prog 8 #[.slice A N c, .int .u32 addr] w fun e w' => e = .returned (.tuple #[rtV q.1, .bool q.2]) ∧ Below w.heap.size w w'
def ZoneC13 : Prop := ∀ (l : List Rt) (A : Option Addr) (c N : Nat), l.length = N → N ≤ 100 → ∀ (addr : Int), U32 addr → ∀ (w : World), RtsAt w l A c → ∀ (q : Int), zoneR l addr = q → Calls Try.prog 12 #[.slice A N c, .int .u32 addr] w fun e w' => e = .returned (.int .i64 q) ∧ Below w.heap.size w w'
def AwakeC13 : Prop := ∀ w, Calls Try.prog 7 #[] w fun e w' => e = .returned (.bool true) ∧ Below w.heap.size w w'
/-- the first hundred. -/
theorem RtsAt.first100 {w : World} {L : List Rt} {A : Option Addr} {c : Nat} (h : RtsAt w L A c) : ∃ M : List Rt, L.take 100 = M ∧ M.length ≤ 100 ∧ RtsAt w M A c ∧ (if (100 : Int) < (L.length : Int) then (100 : Int) else (L.length : Int)) = (M.length : Int) ∧ (M.length : Int) ≤ (c : Int) := by
  have hlc := h.len
  have hl : (L.take 100).length = min 100 L.length := List.length_take
  refine ⟨_, rfl, by omega, h.take 100, ?_, by omega⟩
  split <;> omega
abbrev rA1 : Rt := ⟨167772160, 8, 0, 1500⟩
abbrev rA2 : Rt := ⟨167837696, 16, 2, 1500⟩
theorem awake_facts13 : findR [rA1, rA2] 167838211 = (rA2, true) ∧ zoneR [rA1, rA2] 167903747 = 0 ∧ zoneR [rA1, rA2] 1 = -1 ∧ rightR [rA1, rA2] = true := ⟨rfl, rfl, rfl, rfl⟩
set_option maxRecDepth 100000 in
set_option maxHeartbeats 4000000 in
theorem cawake13 (kF : FindC13) (kZ : ZoneC13) (kR : RightC13) : AwakeC13 := by
  intro w
  obtain ⟨f1, f2, f3, f4⟩ := awake_facts13
  have F1 := Go.Lib.hid f1
  have F2 := Go.Lib.hid f2
  have F3 := Go.Lib.hid f3
  have F4 := Go.Lib.hid f4
  have KF := Go.Lib.hid kF
  have KZ := Go.Lib.hid kZ
  have KR := Go.Lib.hid kR
  have y0 : Below w.heap.size w (w.alloc (.cells #[.int .u32 167772160, .int .i64 8, .int .i64 0, .int .i64 1500, .int .u32 167837696, .int .i64 16, .int .i64 2, .int .i64 1500] 26)) := (Below.refl _ _).alloc (Nat.le_refl _) _
  have hb := Bxo.made w 26 [.int .u32 167772160, .int .i64 8, .int .i64 0, .int .i64 1500, .int .u32 167837696, .int .i64 16, .int .i64 2, .int .i64 1500]
  clear f1 f2 f3 f4 kF kZ kR
  go_enter Try.func7, Try.ntmps7
  go_upto_region 2 with fail
  generalize w.alloc (.cells #[.int .u32 167772160, .int .i64 8, .int .i64 0, .int .i64 1500, .int .u32 167837696, .int .i64 16, .int .i64 2, .int .i64 1500] 26) = W at *
  have HL : Hid (RtsAt W [rA1, rA2] (some ⟨w.heap.size, 0, none⟩) 2) := Go.Lib.hid ⟨Nat.le_refl _, by omega, (fun e => by cases e), .inr ⟨_, rfl, hb.at⟩, fun r hr => by
    simp only [List.mem_cons, List.not_mem_nil, or_false] at hr
    rcases hr with rfl | rfl <;> exact ⟨by decide⟩⟩
  clear hb
  go_upto_region 3 with (go_at_call 8; refine (KF.out [rA1, rA2] _ 2 2 rfl (by decide) 167838211 ⟨by decide, by decide⟩ W HL.out _ F1.out).mono ?_; rintro e w2 ⟨rfl, y2⟩; dsimp only)
  have x2 := y0.trans (y2.mono y0.size)
  have y3 := below_alloc y2 y2.size (oRt rA2)
  have HL3 := Go.Lib.hid (HL.out.at y3)
  have x3 := y0.trans (y3.mono y0.size)
  have hb := Bxo.made w2 26 (rtL rA2)
  have c1 := hb.cell 1 rfl
  clear hb x2 y2 y3
  generalize w2.alloc (.cells (rtL rA2).toArray 26) = w3 at *
  go_wp2_with (first
    | (go_at_call_of 12 (Value.int IntKind.u32 167903747); refine (KZ.out [rA1, rA2] _ 2 2 rfl (by decide) 167903747 ⟨by decide, by decide⟩ w3 HL3.out _ F2.out).mono ?_; rintro e w4 ⟨rfl, y4⟩; have x4 := x3.trans (y4.mono x3.size); have HL4 := Go.Lib.hid (HL3.out.at y4); dsimp only)
    | (go_at_call_of 12 (Value.int IntKind.u32 1); refine (KZ.out [rA1, rA2] _ 2 2 rfl (by decide) 1 ⟨by decide, by decide⟩ w4 HL4.out _ F3.out).mono ?_; rintro e w5 ⟨rfl, y5⟩; have x5 := x4.trans (y5.mono x4.size); have HL5 := Go.Lib.hid (HL4.out.at y5); dsimp only)
    | (go_at_call 10; refine (KR.out [rA1, rA2] _ 2 2 rfl (by decide) w5 HL5.out _ F4.out).mono ?_; rintro e w6 ⟨rfl, y6⟩; have x6 := x5.trans (y6.mono x5.size); dsimp only))
  go_ret
  exact ⟨rfl, x6⟩
end Go.Proofs.Ytalmknbcfgndkaa
