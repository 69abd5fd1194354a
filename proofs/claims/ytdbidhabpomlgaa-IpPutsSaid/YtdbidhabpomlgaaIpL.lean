/- The first of the statements of layer 3, walked: what is put has as many bytes as it says. -/
import Derived.Test.YtdbidhabpomlgaaIpD
import Derived.Test.YtdbidhabpomlgaaIpE
namespace Go.Proofs.Ytdbidhabpomlgaa
open Go.ChangeShapes Go.WideShapes Go.ChangeAt Go.RowKit
set_option linter.unusedVariables false

/-- a packet that came in. -/
structure PkIn (w : World) (p : Pk) (Ao : Option Addr) (co : Nat) (Ab : Option Addr) (cb : Nat) : Prop where
  rng : Rng p
  olen : p.opts.length ≤ co
  ocap : co ≤ 9223372036854775807
  onil : Ao = none → co = 0
  obs : Bs w w.heap.size Ao p.opts
  blen : p.body.length ≤ cb
  bcap : cb ≤ 9223372036854775807
  bnil : Ab = none → cb = 0
  bbs : Bs w w.heap.size Ab p.body

def p0 : Pk := ⟨0, 0, false, false, 0, 64, 17, 167772161, 167772162, [], [7]⟩
theorem p0_may : May p0 := (mayB_iff _).1 (by decide)
theorem p0_rng : Rng p0 := ⟨by decide, by decide, by decide, by decide⟩
theorem p0_prs : prs (putB p0) = (0, p0) := by have := prs_put p0 [] p0_may p0_rng; rwa [List.append_nil] at this
theorem p0_g0 : g8 (putB p0) 0 = 69 := by
  have := (put_bytes p0 (chk p0) p0.body p0_may p0_rng (chk_lo p0) (chk_hi p0)).1
  have e : putB p0 = hd p0 (chk p0) ++ p0.body := rfl
  rw [e, this]; decide
theorem one_bs (w : World) : Bs (w.alloc (.cells #[.int .u8 7] 5)) (w.alloc (.cells #[.int .u8 7] 5)).heap.size (some ⟨w.heap.size, 0, none⟩) [7] := by
  refine .inr ⟨_, rfl, by simp, fun j b hj => ?_⟩
  match j, hj with
  | 0, hj => simp at hj; subst hj; simp [Addr.add]
theorem aput (w : World) : Calls Try.prog 10 #[.agg #[.int .i64 0, .int .i64 0, .bool false, .bool false, .int .i64 0, .int .i64 64, .int .i64 17, .int .u32 167772161, .int .u32 167772162, .slice none 0 0, .slice (some ⟨w.heap.size, 0, none⟩) 1 1]] (w.alloc (.cells #[.int .u8 7] 5))
    fun e w' => ∃ g c, e = .returned (.tuple #[.slice (some ⟨g, 0, none⟩) 21 c, .int .i64 0]) ∧ Own w' (w.heap.size + 1) g 21 c (putB p0) ∧ Below (w.heap.size + 1) (w.alloc (.cells #[.int .u8 7] 5)) w' := by
  have h := cputYes p0 none 0 (some ⟨w.heap.size, 0, none⟩) 1 (w.alloc (.cells #[.int .u8 7] 5)) p0_may p0_rng.s0 p0_rng.s1 p0_rng.d0 p0_rng.d1 (.inl rfl) (one_bs w) (fun h => by cases h)
  refine Calls.mono h ?_
  rintro e w' ⟨g, c, he, ho, hb⟩
  have hs : (w.alloc (.cells #[.int .u8 7] 5)).heap.size = w.heap.size + 1 := by simp
  rw [hs] at ho hb
  exact ⟨g, c, he, ho, hb⟩
theorem aparse (g c : Nat) (w : World) (base : Nat) (h : Own w base g 21 c (putB p0)) : Calls Try.prog 15 #[.slice (some ⟨g, 0, none⟩) 21 c] w
    fun e w' => ∃ Ao co Ab cb, e = .returned (.tuple #[.agg #[.int .i64 0, .int .i64 0, .bool false, .bool false, .int .i64 0, .int .i64 64, .int .i64 17, .int .u32 167772161, .int .u32 167772162, .slice Ao 0 co, .slice Ab 1 cb], .int .i64 0]) ∧ Below w.heap.size w w' := by
  have hc := h.cap
  unfold maxLen at hc
  refine (cparse (some ⟨g, 0, none⟩) 21 c (putB p0) w h.len h.bs (by omega) hc.1 (by omega)).mono ?_
  rintro e w' ⟨Ao, co, Ab, cb, he, hg⟩
  rw [p0_prs] at he hg
  exact ⟨Ao, co, Ab, cb, he, hg.below⟩

set_option maxRecDepth 100000 in
set_option maxHeartbeats 1000000 in
theorem awake (w : World) : Calls Try.prog 8 #[] w fun e w' => e = .returned (.bool true) ∧ Below w.heap.size w w' := by
  go_enter Try.func8, Try.ntmps8
  go_wp2_with fail
  refine (aput w).mono ?_
  rintro e w1 ⟨g, c, rfl, hown, hb1⟩
  dsimp only
  have y1 : Below w.heap.size w w1 := ((Below.refl _ _).alloc (Nat.le_refl _) _).trans (hb1.mono (Nat.le_succ _))
  have hc0 : w1.cell? ⟨g, 0, none⟩ = some (.int .u8 69) := by have := hown.cellAt 0 (by omega); rwa [p0_g0] at this
  have hgl := hown.lt.2
  go_wp2_with fail
  refine (aparse g c w1 _ hown).mono ?_
  rintro e w2 ⟨Ao, co, Ab, cb, rfl, hb2⟩
  dsimp only
  have d0 := cells_keep hb2 hgl hc0
  have y2 := y1.trans (hb2.mono y1.size)
  have hne : g < w2.heap.size := Nat.lt_of_lt_of_le hgl hb2.size
  clear hc0 hown hb1 hb2 y1
  go_wp2
  go_ret
  exact ⟨rfl, y2.alloc y2.size _⟩
end Go.Proofs.Ytdbidhabpomlgaa
