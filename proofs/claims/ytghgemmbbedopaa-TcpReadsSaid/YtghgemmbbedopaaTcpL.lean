/- What the statements of layer 4 begin with. -/
import Derived.Test.YtghgemmbbedopaaTcpA11
import Derived.Test.YtghgemmbbedopaaTcpA12
import Derived.Test.YtghgemmbbedopaaTcpOpen
namespace Go.Proofs.Ytghgemmbbedopaa
open Go.ChangeShapes Go.WideShapes Go.ChangeAt Go.RowKit
set_option linter.unusedVariables false
set_option linter.unusedSimpArgs false

/-- how many sequence numbers, given the two flags. -/
def szT (n : Nat) (v2 v1 : Bool) : Int := (n : Int) + (if v2 then 1 else 0) + (if v1 then 1 else 0)
set_option maxRecDepth 100000 in
set_option maxHeartbeats 1000000 in
theorem tsize (t : Tc) (Ao : Option Addr) (co : Nat) (Ab : Option Addr) (cb : Nat) (w : World) (v2 v1 : Bool) (h2 : (bits .and .i64 t.flags 2 != 0) = v2) (h1 : (bits .and .i64 t.flags 1 != 0) = v1) (hl : t.body.length ≤ 16777216) :
    Calls Try.prog 16 #[tcV t Ao co Ab cb] w fun e w' => e = .returned (.int .i64 (szT t.body.length v2 v1)) ∧ Below w.heap.size w w' := by
  have HZ : Hid (szT t.body.length v2 v1 = (t.body.length : Int) + (if v2 then 1 else 0) + (if v1 then 1 else 0)) := Go.Lib.hid rfl
  have e1 := IntWalk.i64_in ((t.body.length : Int) + 1) (by omega)
  have e2 := IntWalk.i64_in ((t.body.length : Int) + 1 + 1) (by omega)
  cases v2 <;> cases v1
  all_goals
    go_enter Try.func16, Try.ntmps16
    go_wp2
    go_ret
    refine ⟨ret_int ?_, (Below.refl _ _).alloc (Nat.le_refl _) _⟩
    rw [HZ.out]
    simp

def t0 : Tc := ⟨80, 0, 0, 0, 2, 0, 0, [⟨2, [5, 180]⟩, ⟨4, []⟩], []⟩
theorem t0_may : MayT t0 := (mayT_iff _).1 (by decide)
theorem t0_prs : prsT 1 2 (putT 1 2 t0) = (0, t0) := prs_putT 1 2 t0 t0_may (by decide) (by decide)
theorem t0_g20 : g8 (putT 1 2 t0) 20 = 2 := by
  have : ∀ c, g8 (segB t0 c) 20 = 2 := fun c => rfl
  exact this _
theorem t0_g24 : g8 (putT 1 2 t0) 24 = 4 := by
  have : ∀ c, g8 (segB t0 c) 24 = 4 := fun c => rfl
  exact this _
abbrev Wt0 (w : World) : World := (w.alloc (.cells #[.int .u8 5, .int .u8 180] 5)).alloc (.cells #[.int .i64 2, .slice (some ⟨w.heap.size, 0, none⟩) 2 2, .int .i64 4, .slice none 0 0] 39)
theorem t0_in (w : World) : TcIn (Wt0 w) (Wt0 w).heap.size t0 (some ⟨w.heap.size + 1, 0, none⟩) 2 none 0 := by
  refine ⟨by decide, by decide, by decide, by decide, by decide, by omega, (fun h => by cases h), ?_, by decide, by omega, fun _ => rfl, .inl rfl⟩
  refine .inr ⟨_, rfl, by simp, fun j o hj => ?_⟩
  match j, hj with
  | 0, hj =>
    simp [t0] at hj
    subst hj
    refine ⟨by simp [go_sem, Addr.add], some ⟨w.heap.size, 0, none⟩, 2, by simp [go_sem, Addr.add], .inr ⟨_, rfl, by simp; omega, fun i b hi => ?_⟩, by simp, by omega, (fun h => by cases h)⟩
    match i, hi with
    | 0, hi => simp at hi; subst hi; simp [go_sem, Addr.add]
    | 1, hi => simp at hi; subst hi; simp [go_sem, Addr.add]
  | 1, hj =>
    simp [t0] at hj
    subst hj
    exact ⟨by simp [go_sem, Addr.add], none, 0, by simp [go_sem, Addr.add], .inl rfl, by simp, by omega, fun _ => rfl⟩
theorem aputT (w : World) : Calls Try.prog 10 #[.int .u32 1, .int .u32 2, .agg #[.int .i64 80, .int .i64 0, .int .u32 0, .int .u32 0, .int .i64 2, .int .i64 0, .int .i64 0, .slice (some ⟨w.heap.size + 1, 0, none⟩) 2 2, .slice none 0 0]] (Wt0 w)
    fun e w' => ∃ g c, e = .returned (.tuple #[.slice (some ⟨g, 0, none⟩) 28 c, .int .i64 0]) ∧ Own w' (w.heap.size + 1) g 28 c (putT 1 2 t0) ∧ Below w.heap.size w w' := by
  have b0 : Below w.heap.size w (Wt0 w) := ((Below.refl _ _).alloc (Nat.le_refl _) _).alloc (by simp) _
  refine (tputYes 1 2 t0 (some ⟨w.heap.size + 1, 0, none⟩) 2 none 0 (Wt0 w) t0_may (by omega) (by omega) (t0_in w) 28 (by decide)).mono ?_
  rintro e w' ⟨g, c, he, ho, hb⟩
  exact ⟨g, c, he, World.ownsRow.mono ho (by simp), b0.trans (hb.mono b0.size)⟩
theorem aparseT (g c : Nat) (w : World) (base : Nat) (h : Own w base g 28 c (putT 1 2 t0)) : Calls Try.prog 17 #[.int .u32 1, .int .u32 2, .slice (some ⟨g, 0, none⟩) 28 c] w
    fun e w' => ∃ Ao co Ab cb, e = .returned (.tuple #[.agg #[.int .i64 80, .int .i64 0, .int .u32 0, .int .u32 0, .int .i64 2, .int .i64 0, .int .i64 0, .slice Ao 2 co, .slice Ab 0 cb], .int .i64 0]) ∧ Below w.heap.size w w' := by
  have hc := h.cap
  unfold maxLen at hc
  refine (tparse 1 2 (some ⟨g, 0, none⟩) 28 c (putT 1 2 t0) w (by omega) (by omega) h.len h.bs (by omega) hc.1 (by omega) (fun h => by cases h)).mono ?_
  rintro e w' ⟨Ao, co, Ab, cb, he, hg⟩
  rw [t0_prs] at he hg
  exact ⟨Ao, co, Ab, cb, he, hg.below⟩
theorem asizeT (Ao : Option Addr) (co : Nat) (Ab : Option Addr) (cb : Nat) (w : World) : Calls Try.prog 16 #[.agg #[.int .i64 80, .int .i64 0, .int .u32 0, .int .u32 0, .int .i64 2, .int .i64 0, .int .i64 0, .slice Ao 2 co, .slice Ab 0 cb]] w fun e w' => e = .returned (.int .i64 1) ∧ Below w.heap.size w w' :=
  tsize t0 Ao co Ab cb w true false (by decide) (by decide) (by decide)

set_option maxRecDepth 100000 in
set_option maxHeartbeats 1000000 in
theorem awakeT (w : World) : Calls Try.prog 8 #[] w fun e w' => e = .returned (.bool true) ∧ Below w.heap.size w w' := by
  go_enter Try.func8, Try.ntmps8
  go_wp2_with fail
  refine (aputT w).mono ?_
  rintro e w1 ⟨g, c, rfl, hown, y1⟩
  dsimp only
  have c20 : w1.cell? ⟨g, 20, none⟩ = some (.int .u8 2) := by have := hown.cellAt 20 (by omega); rwa [t0_g20] at this
  have c24 : w1.cell? ⟨g, 24, none⟩ = some (.int .u8 4) := by have := hown.cellAt 24 (by omega); rwa [t0_g24] at this
  have hgl := hown.lt.2
  go_wp2_with fail
  refine (aparseT g c w1 _ hown).mono ?_
  rintro e w2 ⟨Ao, co, Ab, cb, rfl, hb2⟩
  dsimp only
  have d20 := cells_keep hb2 hgl c20
  have d24 := cells_keep hb2 hgl c24
  have y2 := y1.trans (hb2.mono y1.size)
  have hne : g < w2.heap.size := Nat.lt_of_lt_of_le hgl hb2.size
  clear c20 c24 hown hb2 y1
  go_wp2_with (go_at_call 16; refine (asizeT Ao co Ab cb _).mono ?_; rintro e w3 ⟨rfl, hb3⟩; dsimp only)
  go_ret
  exact ⟨rfl, (y2.alloc y2.size _).trans (hb3.mono (y2.alloc y2.size _).size)⟩
end Go.Proofs.Ytghgemmbbedopaa
