/- What the statements of layer 5 begin with; a boxed datagram. -/
import Derived.Test.YthikllbfkagdnaaUdpA8
import Derived.Test.YthikllbfkagdnaaUdpA9
import Derived.Test.YthikllbfkagdnaaUdpOpen
namespace Go.Proofs.Ythikllbfkagdnaa
open Go.ChangeShapes Go.WideShapes Go.ChangeAt Go.RowKit
set_option linter.unusedVariables false
set_option linter.unusedSimpArgs false

def u0 : Ud := ⟨1, 2, true, []⟩
theorem u0_may : MayU u0 := (mayU_iff _).1 (by decide)
theorem u0_put : putU 1 2 u0 = [0, 1, 0, 2, 0, 8, 0, 0] := by unfold putU; rw [(chkU_zero 1 2 u0).2 rfl]; rfl
theorem u0_prs : prsU 1 2 (putU 1 2 u0) = (0, u0) := by have := prs_putU 1 2 u0 [] u0_may; rwa [List.append_nil] at this
theorem u0_in (w : World) : UdIn w w.heap.size u0 none 0 := ⟨by decide, by omega, fun _ => rfl, .inl rfl⟩
theorem aputU (w : World) : Calls Try.prog 9 #[.int .u32 1, .int .u32 2, .agg #[.int .i64 1, .int .i64 2, .bool true, .slice none 0 0]] w
    fun e w' => ∃ g c, e = .returned (.tuple #[.slice (some ⟨g, 0, none⟩) 8 c, .int .i64 0]) ∧ Own w' w.heap.size g 8 c (putU 1 2 u0) ∧ Below w.heap.size w w' :=
  uputYes 1 2 u0 none 0 w u0_may (by omega) (by omega) (u0_in w) 8 rfl
theorem aparseU (g c : Nat) (w : World) (base : Nat) (h : Own w base g 8 c (putU 1 2 u0)) : Calls Try.prog 14 #[.int .u32 1, .int .u32 2, .slice (some ⟨g, 0, none⟩) 8 c] w
    fun e w' => ∃ Ab cb, e = .returned (.tuple #[.agg #[.int .i64 1, .int .i64 2, .bool true, .slice Ab 0 cb], .int .i64 0]) ∧ Below w.heap.size w w' := by
  have hc := h.cap
  unfold maxLen at hc
  refine (uparse 1 2 (some ⟨g, 0, none⟩) 8 c (putU 1 2 u0) w (by omega) (by omega) h.len h.bs (by omega) hc.1 (by omega)).mono ?_
  rintro e w' ⟨Ab, cb, he, hg⟩
  rw [u0_prs] at he hg
  exact ⟨Ab, cb, he, hg.below⟩

set_option maxRecDepth 100000 in
set_option maxHeartbeats 1000000 in
theorem awakeU (w : World) : Calls Try.prog 8 #[] w fun e w' => e = .returned (.bool true) ∧ Below w.heap.size w w' := by
  go_enter Try.func8, Try.ntmps8
  go_wp2_with fail
  refine (aputU w).mono ?_
  rintro e w1 ⟨g, c, rfl, hown, y1⟩
  dsimp only
  have c1 : w1.cell? ⟨g, 1, none⟩ = some (.int .u8 1) := by have := hown.cellAt 1 (by omega); rwa [u0_put] at this
  have c5 : w1.cell? ⟨g, 5, none⟩ = some (.int .u8 8) := by have := hown.cellAt 5 (by omega); rwa [u0_put] at this
  have hgl := hown.lt.2
  go_wp2_with fail
  refine (aparseU g c w1 _ hown).mono ?_
  rintro e w2 ⟨Ab, cb, rfl, hb2⟩
  dsimp only
  have d1 := cells_keep hb2 hgl c1
  have d5 := cells_keep hb2 hgl c5
  have y2 := y1.trans (hb2.mono y1.size)
  have hne : g < w2.heap.size := Nat.lt_of_lt_of_le hgl hb2.size
  clear c1 c5 hown hb2 y1
  go_wp2
  go_ret
  exact ⟨rfl, y2.alloc y2.size _⟩

/-- a boxed datagram. -/
structure Bx (u : Ud) (Ab : Option Addr) (cb : Nat) (w w' : World) : Prop where
  size : w.heap.size + 1 ≤ w'.heap.size
  below : Below w.heap.size w w'
  is : udIs w' w.heap.size u Ab cb
  fz : ∀ o, w'.frozen? ⟨w.heap.size, o, none⟩ = false
section
variable {u : Ud} {Ab : Option Addr} {cb : Nat} {w w' w'' : World}
theorem Bx.start : Bx u Ab cb w (w.alloc (udO u Ab cb)) := ⟨by simp, (Below.refl _ _).alloc (Nat.le_refl _) _, udIs.made, fun o => by simp [go_sem]⟩
theorem Bx.step (h : Bx u Ab cb w w') (hb : Below (w.heap.size + 1) w' w'') : Bx u Ab cb w w'' := ⟨Nat.le_trans h.size hb.size, h.below.trans (hb.mono (Nat.le_succ _)), h.is.keep hb (Nat.lt_succ_self _), fun o => (hb.frozen (p := ⟨w.heap.size, o, none⟩) (Nat.lt_succ_self _)).trans (h.fz o)⟩
theorem Bx.call (h : Bx u Ab cb w w') (hb : Below w'.heap.size w' w'') : Bx u Ab cb w w'' := h.step (hb.mono h.size)
theorem Bx.cells (h : Bx u Ab cb w w') : w'.cell? ⟨w.heap.size, 0, none⟩ = some (.int .i64 u.sport) ∧ w'.cell? ⟨w.heap.size, 1, none⟩ = some (.int .i64 u.dport) ∧ w'.cell? ⟨w.heap.size, 2, none⟩ = some (.bool u.nosum) ∧ w'.cell? ⟨w.heap.size, 3, none⟩ = some (.slice Ab u.body.length cb) := h.is.cells
theorem Bx.alloc (h : Bx u Ab cb w w') (o : Obj) : Bx u Ab cb w (w'.alloc o) := h.step ((Below.refl _ _).alloc h.size o)
/-- it is told to have a sum. -/
theorem Bx.sum {v : Ud} (h : Bx u Ab cb w w') (hv : v = ⟨u.sport, u.dport, false, u.body⟩) : Bx v Ab cb w (w'.setCell ⟨w.heap.size, 2, none⟩ (.bool false)) := by
  subst hv
  obtain ⟨c0, c1, c2, c3⟩ := h.cells
  have hf := h.fz
  refine ⟨by simpa using h.size, h.below.setCell (p := ⟨w.heap.size, 2, none⟩) (Nat.le_refl _) _, ⟨?_, ?_, ?_, ?_⟩, fun o => ?_⟩ <;> simp [go_sem, *]
end
theorem UdIn.at {w : World} {u : Ud} {Ab : Option Addr} {cb : Nat} (h : UdIn w w.heap.size u Ab cb) {w' : World} (hb : Below w.heap.size w w') : UdIn w' w'.heap.size u Ab cb := (h.below hb).more hb.size
end Go.Proofs.Ythikllbfkagdnaa
