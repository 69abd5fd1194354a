/- What the statements of layer 6 begin with; a boxed message. -/
import Derived.Test.YtndhiopfkgdhcaaIcmpA4
import Derived.Test.YtndhiopfkgdhcaaIcmpOpen
namespace Go.Proofs.Ytndhiopfkgdhcaa
open Go.ChangeShapes Go.WideShapes Go.ChangeAt Go.RowKit
set_option linter.unusedVariables false
set_option linter.unusedSimpArgs false

def m0 : Ic := ⟨8, 0, 458753, [5]⟩
theorem m0_may : MayI m0 := (mayI_iff m0).1 (by decide)
theorem m0_rest : 0 ≤ m0.rest ∧ m0.rest ≤ 4294967295 := ⟨by decide, by decide⟩
theorem m0_prs : prsI (putI m0) = (0, m0) := prs_putI m0 m0_may m0_rest
/-- a world in which that message lies in the two newest blocks. -/
abbrev Wm (w : World) : World := (w.alloc (.cells #[.int .u8 5] 5)).alloc (.cells #[.int .i64 8, .int .i64 0, .int .u32 458753, .slice (some ⟨w.heap.size, 0, none⟩) 1 1] 25)
theorem wm_is (w : World) : (w.alloc (.cells #[.int .u8 5] 5)).alloc (.cells #[.int .i64 8, .int .i64 0, .int .u32 458753, .slice (some ⟨w.heap.size, 0, none⟩) 1 1] 25) = Wm w := rfl
theorem wm_of (w : World) : Below w.heap.size w (Wm w) ∧ (Wm w).heap.size = w.heap.size + 2 ∧ icIs (Wm w) (w.heap.size + 1) m0 (some ⟨w.heap.size, 0, none⟩) 1 ∧ IcIn (Wm w) (Wm w).heap.size m0 (some ⟨w.heap.size, 0, none⟩) 1 := by
  refine ⟨((Below.refl _ _).alloc (Nat.le_refl _) _).alloc (by simp) _, by simp, ⟨?_, ?_, ?_, ?_⟩, ⟨by decide, by decide, by decide, by omega, (fun h => by cases h), .inr ⟨_, rfl, (by simp; omega), fun j b hj => ?_⟩⟩⟩
  · simp [go_sem, m0]
  · simp [go_sem, m0]
  · simp [go_sem, m0]
  · simp [go_sem, m0]
  · match j, hj with
    | 0, hj => simp [m0] at hj; subst hj; simp [go_sem, Addr.add]
theorem aputI (A : Option Addr) (w : World) (hI : IcIn w w.heap.size m0 A 1) : Calls Try.prog 9 #[.agg #[.int .i64 8, .int .i64 0, .int .u32 458753, .slice A 1 1]] w
    fun e w' => ∃ g c, e = .returned (.tuple #[.slice (some ⟨g, 0, none⟩) 9 c, .int .i64 0]) ∧ Own w' w.heap.size g 9 c (putI m0) ∧ Below w.heap.size w w' :=
  iputYes m0 A 1 w m0_may hI 9 rfl
theorem aparseI (g c : Nat) (w : World) (base : Nat) (h : Own w base g 9 c (putI m0)) : Calls Try.prog 19 #[.slice (some ⟨g, 0, none⟩) 9 c] w
    fun e w' => ∃ Ab cb, e = .returned (.tuple #[.agg #[.int .i64 8, .int .i64 0, .int .u32 458753, .slice Ab 1 cb], .int .i64 0]) ∧ IcIn w' w'.heap.size m0 Ab cb ∧ Below w.heap.size w w' := by
  have hc := h.cap
  unfold maxLen at hc
  refine (iparse (some ⟨g, 0, none⟩) 9 c (putI m0) w h.len h.bs (by omega) hc.1 (by omega)).mono ?_
  rintro e w' ⟨Ab, cb, he, hg⟩
  rw [m0_prs] at he hg
  exact ⟨Ab, cb, he, hg.is, hg.below⟩
theorem asame (A : Option Addr) (c : Nat) (A' : Option Addr) (c' : Nat) (B : Nat) (w : World) (hB : B ≤ w.heap.size) (hI : Bs w B A m0.body) (hJ : Bs w B A' m0.body) : Calls Try.prog 12 #[.agg #[.int .i64 8, .int .i64 0, .int .u32 458753, .slice A 1 c], .agg #[.int .i64 8, .int .i64 0, .int .u32 458753, .slice A' 1 c']] w
    fun e w' => e = .returned (.bool true) ∧ Below w.heap.size w w' := by
  have := isameI m0 A c m0 A' c' B w hB hI hJ
  rwa [(sameI_iff m0 m0).2 rfl] at this
theorem aname (A : Option Addr) (c : Nat) (w : World) : Calls Try.prog 18 #[.agg #[.int .i64 8, .int .i64 0, .int .u32 458753, .slice A 1 c]] w
    fun e w' => e = .returned (.int .i64 7) ∧ Below w.heap.size w w' := iname m0 A c w 7 (by decide) (by decide) (by decide)
theorem aasks (A : Option Addr) (c : Nat) (w : World) : Calls Try.prog 14 #[.agg #[.int .i64 8, .int .i64 0, .int .u32 458753, .slice A 1 c]] w
    fun e w' => e = .returned (.bool true) ∧ Below w.heap.size w w' := iasks m0 A c w true (by decide)

set_option maxRecDepth 100000 in
set_option maxHeartbeats 1000000 in
theorem awakeI (w : World) : Calls Try.prog 8 #[] w fun e w' => e = .returned (.bool true) ∧ Below w.heap.size w w' := by
  obtain ⟨b0, sz, i0, hI⟩ := wm_of w
  have HI := Go.Lib.hid hI
  have I0 := Go.Lib.hid i0
  clear hI i0
  go_enter Try.func8, Try.ntmps8
  go_upto_region 2 with fail
  rw [wm_is]
  generalize Wm w = W at *
  have K : ∀ Y, Below W.heap.size W Y → Y.cell? ⟨w.heap.size + 1, 0, none⟩ = some (.int .i64 8) ∧ Y.cell? ⟨w.heap.size + 1, 1, none⟩ = some (.int .i64 0) ∧ Y.cell? ⟨w.heap.size + 1, 2, none⟩ = some (.int .u32 458753) ∧ Y.cell? ⟨w.heap.size + 1, 3, none⟩ = some (.slice (some ⟨w.heap.size, 0, none⟩) 1 1) := fun Y y => (I0.out.keep y (by omega)).cells
  obtain ⟨c0, c1, c2, c3⟩ := K _ (Below.refl _ _)
  go_wp2_with fail
  refine (aputI _ W HI.out).mono ?_
  rintro e w1 ⟨g, c, rfl, hown, y1⟩
  dsimp only
  clear c0 c1 c2 c3
  go_wp2_with fail
  refine (aparseI g c w1 _ hown).mono ?_
  rintro e w2 ⟨Ab, cb, rfl, hJ, hb2⟩
  dsimp only
  have y2 := y1.trans (hb2.mono y1.size)
  have HJ := Go.Lib.hid hJ
  clear hown hb2 y1 hJ
  go_upto_region 4 with fail
  have j3 := icIs.made (w := w2) (m := m0) (A_body := Ab) (c_body := cb)
  have y3 : Below w2.heap.size w2 (w2.alloc (.cells #[.int .i64 8, .int .i64 0, .int .u32 458753, .slice Ab 1 cb] 25)) := (Below.refl _ _).alloc (Nat.le_refl _) _
  have s3 : w2.heap.size < (w2.alloc (.cells #[.int .i64 8, .int .i64 0, .int .u32 458753, .slice Ab 1 cb] 25)).heap.size := by simp
  have J3 : Hid (icIs (w2.alloc (.cells #[.int .i64 8, .int .i64 0, .int .u32 458753, .slice Ab 1 cb] 25)) w2.heap.size m0 Ab cb) := Go.Lib.hid j3
  clear j3
  generalize w2.alloc (.cells #[.int .i64 8, .int .i64 0, .int .u32 458753, .slice Ab 1 cb] 25) = w3 at *
  have y4 := y2.trans (y3.mono y2.size)
  have K3 : ∀ Y, Below w3.heap.size w3 Y → Y.cell? ⟨w2.heap.size, 0, none⟩ = some (.int .i64 8) ∧ Y.cell? ⟨w2.heap.size, 1, none⟩ = some (.int .i64 0) ∧ Y.cell? ⟨w2.heap.size, 2, none⟩ = some (.int .u32 458753) ∧ Y.cell? ⟨w2.heap.size, 3, none⟩ = some (.slice Ab 1 cb) := fun Y y => (J3.out.keep y s3).cells
  obtain ⟨c0, c1, c2, c3⟩ := K _ y4
  obtain ⟨d0, d1, d2, d3⟩ := K3 _ (Below.refl _ _)
  go_wp2_with fail
  refine (asame _ _ _ _ w3.heap.size w3 (Nat.le_refl _) ((HI.out.bs.below y4).more y4.size) ((HJ.out.bs.below y3).more y3.size)).mono ?_
  rintro e w4 ⟨rfl, y5⟩
  dsimp only
  clear c0 c1 c2 c3 d0 d1 d2 d3
  obtain ⟨d0, d1, d2, d3⟩ := K3 _ y5
  go_wp2_with fail
  refine (aname Ab cb w4).mono ?_
  rintro e w5 ⟨rfl, y6⟩
  dsimp only
  have y7 := y5.trans (y6.mono y5.size)
  clear d0 d1 d2 d3
  obtain ⟨d0, d1, d2, d3⟩ := K3 _ y7
  go_wp2_with fail
  refine (aasks Ab cb w5).mono ?_
  rintro e w6 ⟨rfl, y8⟩
  dsimp only
  have y9 := y7.trans (y8.mono y7.size)
  go_wp2
  go_ret
  exact ⟨rfl, b0.trans ((y4.trans (y9.mono y4.size)).mono b0.size)⟩

/-- a boxed message. -/
structure Bi (m : Ic) (Ab : Option Addr) (cb : Nat) (w w' : World) : Prop where
  size : w.heap.size + 1 ≤ w'.heap.size
  below : Below w.heap.size w w'
  is : icIs w' w.heap.size m Ab cb
section
variable {m : Ic} {Ab : Option Addr} {cb : Nat} {w w' w'' : World}
theorem Bi.start : Bi m Ab cb w (w.alloc (icO m Ab cb)) := ⟨by simp, (Below.refl _ _).alloc (Nat.le_refl _) _, icIs.made⟩
theorem Bi.step (h : Bi m Ab cb w w') (hb : Below (w.heap.size + 1) w' w'') : Bi m Ab cb w w'' := ⟨Nat.le_trans h.size hb.size, h.below.trans (hb.mono (Nat.le_succ _)), h.is.keep hb (Nat.lt_succ_self _)⟩
theorem Bi.call (h : Bi m Ab cb w w') (hb : Below w'.heap.size w' w'') : Bi m Ab cb w w'' := h.step (hb.mono h.size)
theorem Bi.cells (h : Bi m Ab cb w w') : w'.cell? ⟨w.heap.size, 0, none⟩ = some (.int .i64 m.type) ∧ w'.cell? ⟨w.heap.size, 1, none⟩ = some (.int .i64 m.code) ∧ w'.cell? ⟨w.heap.size, 2, none⟩ = some (.int .u32 m.rest) ∧ w'.cell? ⟨w.heap.size, 3, none⟩ = some (.slice Ab m.body.length cb) := h.is.cells
theorem Bi.alloc (h : Bi m Ab cb w w') (o : Obj) : Bi m Ab cb w (w'.alloc o) := h.step ((Below.refl _ _).alloc h.size o)
end
end Go.Proofs.Ytndhiopfkgdhcaa
