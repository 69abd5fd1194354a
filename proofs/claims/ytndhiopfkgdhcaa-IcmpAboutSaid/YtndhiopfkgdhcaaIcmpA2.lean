/- The contract of package icmp's putHead. -/
import Derived.Deep.RegionHeld3
import Derived.Test.YtndhiopfkgdhcaaIcmpA1
namespace Go.Proofs.Ytndhiopfkgdhcaa
open Go.ChangeShapes Go.WideShapes Go.ChangeAt Go.RowKit
set_option linter.unusedVariables false
set_option linter.unusedSimpArgs false

/-- the eight bytes of a head whose check sum is not yet put. -/
def hd8I (m : Ic) : List UInt8 := [b8 m.type, b8 m.code, 0, 0, b8 (m.rest / 16777216), b8 (m.rest / 65536 % 256), b8 (m.rest / 256 % 256), b8 (m.rest % 256)]
theorem icB_hd (m : Ic) : icB m 0 = hd8I m ++ m.body := rfl
theorem sets_ic (x0 x1 x2 x3 x4 x5 : UInt8) : ((((((List.replicate 8 (0 : UInt8)).set 0 x0).set 1 x1).set 4 x2).set (4 + 1) x3).set 6 x4).set (6 + 1) x5 = [x0, x1, 0, 0, x2, x3, x4, x5] := rfl

set_option maxRecDepth 100000 in
set_option maxHeartbeats 4000000 in
theorem iputHead (m : Ic) (Ab : Option Addr) (cb : Nat) (w : World) (hM : MayI m) (r0 : 0 ≤ m.rest) (r1 : m.rest ≤ 4294967295) :
    Calls Try.prog 31 #[icV m Ab cb] w fun e w' => ∃ g c, e = .returned (.slice (some ⟨g, 0, none⟩) 8 c) ∧ Own w' w.heap.size g 8 c (hd8I m) ∧ Below w.heap.size w w' := by
  obtain ⟨i0, hi, hz0, hz1, hz2⟩ := info_parts info_byte
  obtain ⟨s0, s1, d0, d1, fit⟩ := hM
  obtain ⟨c, hc⟩ : ∃ c : Nat, 8 + m.body.length = c := ⟨_, rfl⟩
  have hc' : (8 : Int) + (m.body.length : Int) = (c : Int) := by omega
  have hc8 : 8 ≤ c := by omega
  have hc65 : c ≤ 65535 := by omega
  have hmk : ∀ W : World, (Instr.makeSlice 23 (.int .i64 8) (.int .i64 (c : Int))).run Try.prog W = .ok (.slice (some ⟨W.heap.size, 0, none⟩) 8 c) (W.alloc (.cells (madeCells #[.int .u8 0] c) 5)) := by
    intro W
    have := run_make (P := Try.prog) W 23 5 i0 (.int .u8 0) Try.underlying23 hi hz0 .i64 .i64 8 c (by omega) (by omega) (by rw [hz2]; omega) (by omega)
    simpa [hz1, Value.cells] using this
  have e2 : IntKind.i64.wrap ((8 : Int) + (m.body.length : Int)) = (c : Int) := by rw [hc']; exact IntWalk.i64_in _ (by omega)
  have m0 := icIs.made (w := w) (m := m) (A_body := Ab) (c_body := cb)
  have b0 : Below w.heap.size w (w.alloc (icO m Ab cb)) := (Below.refl _ _).alloc (Nat.le_refl _) _
  have sz : w.heap.size + 1 ≤ (w.alloc (icO m Ab cb)).heap.size := by simp
  clear hc hc' fit
  go_enter Try.func31, Try.ntmps31
  go_upto_region 1 with fail
  generalize w.alloc (.cells #[.int .i64 m.type, .int .i64 m.code, .int .u32 m.rest, .slice Ab m.body.length cb] 25) = W at *
  have M0 := Go.Lib.hid m0
  have K : ∀ Y, Below (w.heap.size + 1) W Y → Y.cell? ⟨w.heap.size, 0, none⟩ = some (.int .i64 m.type) ∧ Y.cell? ⟨w.heap.size, 1, none⟩ = some (.int .i64 m.code) ∧ Y.cell? ⟨w.heap.size, 2, none⟩ = some (.int .u32 m.rest) ∧ Y.cell? ⟨w.heap.size, 3, none⟩ = some (.slice Ab m.body.length cb) ∧ Below (w.heap.size + 1) W Y := fun Y y => by
    obtain ⟨c0, c1, c2, c3⟩ := (M0.out.keep y (Nat.lt_succ_self _)).cells
    exact ⟨c0, c1, c2, c3, y⟩
  obtain ⟨c0, c1, c2, c3⟩ := m0.cells
  clear m0
  go_upto_region 2 with fail
  have o1 := own_made W (w.heap.size + 1) 8 c sz hc8 (by unfold maxLen; omega)
  have x2 : Below (w.heap.size + 1) W (W.alloc (.cells (madeCells #[.int .u8 0] c) 5)) := (Below.refl _ _).alloc sz (.cells (madeCells #[.int .u8 0] c) 5)
  clear hmk e2 c0 c1 c2 c3
  generalize W.alloc (.cells (madeCells #[.int .u8 0] c) 5) = w2 at *
  generalize W.heap.size = g at *
  have x2d : Below (w.heap.size + 1) W w2.drew := below_drew x2
  have o1d : Own w2.drew (w.heap.size + 1) g 8 c (List.replicate 8 0) := o1
  have d0' := o1.cellAt 0 (by omega)
  have f0 := o1.frozenAt 0
  have d1' := o1.cellAt 1 (by omega)
  have f1 := o1.frozenAt 1
  have y1 := IntWalk.u8_in m.type (by omega)
  have y2 := IntWalk.u8_in m.code (by omega)
  clear o1 x2
  refine wp_region_held_drew (S := (fun Y => Y.cell? ⟨w.heap.size, 0, none⟩ = some (.int .i64 m.type) ∧ Y.cell? ⟨w.heap.size, 1, none⟩ = some (.int .i64 m.code) ∧ Y.cell? ⟨w.heap.size, 2, none⟩ = some (.int .u32 m.rest) ∧ Y.cell? ⟨w.heap.size, 3, none⟩ = some (.slice Ab m.body.length cb) ∧ Below (w.heap.size + 1) W Y)) (by kernel_rfl) ?_ (fun hHeld => ?_)
  · exact K _ x2d
  refine wpAnyH_take (i := 0) (oi := ⟨some 9, _, _, _, _, _⟩) (v := ?_) rfl (by kernel_rfl) (by kernel_rfl) (by kernel_rfl) (fun _ _ _ h => h) (Or.inl ⟨by rfl, ?_⟩) (by assumption) ?_
  rotate_left
  · intro w hSw; (try dsimp only at hSw); go_simp; (try with_reducible rfl)
  try simp only [Act.put, List.setIfInBounds_toArray, List.set_cons_zero, List.set_cons_succ]
  refine wpAnyH_take (i := 1) (oi := ⟨some 10, _, _, _, _, _⟩) (v := ?_) rfl (by kernel_rfl) (by kernel_rfl) (by kernel_rfl) (fun _ _ _ h => h) (Or.inl ⟨by rfl, ?_⟩) (by assumption) ?_
  rotate_left
  · intro w hSw; (try dsimp only at hSw); go_simp; (try with_reducible rfl)
  try simp only [Act.put, List.setIfInBounds_toArray, List.set_cons_zero, List.set_cons_succ]
  refine wpAnyH_take (i := 2) (oi := ⟨some 11, _, _, _, _, _⟩) (v := ?_) rfl (by kernel_rfl) (by kernel_rfl) (by kernel_rfl) (fun _ _ _ h => h) (Or.inl ⟨by rfl, ?_⟩) (by assumption) ?_
  rotate_left
  · intro w hSw; (try dsimp only at hSw); go_simp; (try with_reducible rfl)
  try simp only [Act.put, List.setIfInBounds_toArray, List.set_cons_zero, List.set_cons_succ]
  refine wpAnyH_take (i := 3) (oi := ⟨some 12, _, _, _, _, _⟩) (v := ?_) rfl (by kernel_rfl) (by kernel_rfl) (by kernel_rfl) (fun _ _ _ h => h) (Or.inl ⟨by rfl, ?_⟩) (by assumption) ?_
  rotate_left
  · intro w hSw; (try dsimp only at hSw); go_simp; (try with_reducible rfl)
  try simp only [Act.put, List.setIfInBounds_toArray, List.set_cons_zero, List.set_cons_succ]
  refine wpAnyH_take (i := 4) (oi := ⟨some 13, _, _, _, _, _⟩) (v := ?_) rfl (by kernel_rfl) (by kernel_rfl) (by kernel_rfl) (fun _ _ _ h => h) (Or.inl ⟨by rfl, ?_⟩) (by assumption) ?_
  rotate_left
  · intro w hSw; (try dsimp only at hSw); go_simp; (try with_reducible rfl)
  try simp only [Act.put, List.setIfInBounds_toArray, List.set_cons_zero, List.set_cons_succ]
  refine wpAnyH_take (i := 5) (oi := ⟨some 14, _, _, _, _, _⟩) (v := ?_) rfl (by kernel_rfl) (by kernel_rfl) (by kernel_rfl) (fun _ _ _ h => h) (Or.inl ⟨by rfl, ?_⟩) (by assumption) ?_
  rotate_left
  · intro w hSw; (try dsimp only at hSw); go_simp; (try with_reducible rfl)
  try simp only [Act.put, List.setIfInBounds_toArray, List.set_cons_zero, List.set_cons_succ]
  refine wpAnyH_take (i := 6) (oi := ⟨some 15, _, _, _, _, _⟩) (v := ?_) rfl (by kernel_rfl) (by kernel_rfl) (by kernel_rfl) (fun _ _ _ h => h) (Or.inl ⟨by rfl, ?_⟩) (by assumption) ?_
  rotate_left
  · intro w hSw; (try dsimp only at hSw); go_simp; (try with_reducible rfl)
  try simp only [Act.put, List.setIfInBounds_toArray, List.set_cons_zero, List.set_cons_succ]
  refine wpAnyH_take (i := 7) (oi := ⟨some 16, _, _, _, _, _⟩) (v := ?_) rfl (by kernel_rfl) (by kernel_rfl) (by kernel_rfl) (fun _ _ _ h => h) (Or.inl ⟨by rfl, ?_⟩) (by assumption) ?_
  rotate_left
  · intro w hSw; (try dsimp only at hSw); go_simp; (try with_reducible rfl)
  try simp only [Act.put, List.setIfInBounds_toArray, List.set_cons_zero, List.set_cons_succ]
  refine wpAnyH_take (i := 8) (oi := ⟨some 17, _, _, _, _, _⟩) (v := ?_) rfl (by kernel_rfl) (by kernel_rfl) (by kernel_rfl) (fun _ _ _ h => h) (Or.inl ⟨by rfl, ?_⟩) (by assumption) ?_
  rotate_left
  · intro w hSw; (try dsimp only at hSw); go_simp; (try with_reducible rfl)
  try simp only [Act.put, List.setIfInBounds_toArray, List.set_cons_zero, List.set_cons_succ]
  refine wpAnyH_ready (rs := [9]) (by kernel_rfl) (by simp) (AllReadyH.cons (o := ⟨none, _, _, _, _, _⟩) rfl (fun Kc hKc => ?_) AllReadyH.nil)
  go_simp
  obtain ⟨o2, b2⟩ := o1d.stored 0 m.type (by omega) (by omega); have x3 := x2d.trans b2
  clear hHeld
  refine hKc.out _ _ ?_ (fun hHeld => ?_)
  · (try dsimp only); exact K _ x3
  clear hKc Kc
  try simp only [Act.put, List.setIfInBounds_toArray, List.set_cons_zero, List.set_cons_succ]
  refine wpAnyH_take (i := 10) (oi := ⟨some 18, _, _, _, _, _⟩) (v := ?_) rfl (by kernel_rfl) (by kernel_rfl) (by kernel_rfl) (fun _ _ _ h => h) (Or.inl ⟨by rfl, ?_⟩) (by assumption) ?_
  rotate_left
  · intro w hSw; (try dsimp only at hSw); go_simp; (try with_reducible rfl)
  try simp only [Act.put, List.setIfInBounds_toArray, List.set_cons_zero, List.set_cons_succ]
  refine wpAnyH_ready (rs := [11]) (by kernel_rfl) (by simp) (AllReadyH.cons (o := ⟨none, _, _, _, _, _⟩) rfl (fun Kc hKc => ?_) AllReadyH.nil)
  go_simp
  obtain ⟨o3, b3⟩ := o2.stored 1 m.code (by omega) (by omega); have x4 := x3.trans b3
  clear hHeld
  refine hKc.out _ _ ?_ (fun hHeld => ?_)
  · (try dsimp only); exact K _ x4
  clear hKc Kc
  try simp only [Act.put, List.setIfInBounds_toArray, List.set_cons_zero, List.set_cons_succ]
  refine wpAnyH_done (by kernel_rfl) ?_ _
  have o3 : Own ((w2.setCell ⟨g, 0, none⟩ (.int .u8 m.type)).setCell ⟨g, 1, none⟩ (.int .u8 m.code)).drew (w.heap.size + 1) g 8 c (((List.replicate 8 0).set 0 (b8 m.type)).set 1 (b8 m.code)) := o3
  have x4 : Below (w.heap.size + 1) W ((w2.setCell ⟨g, 0, none⟩ (.int .u8 m.type)).setCell ⟨g, 1, none⟩ (.int .u8 m.code)).drew := x4
  clear hHeld d0' f0 d1' f1 o1d o2 x2d x3 b2 b3 y1 y2
  generalize ((w2.setCell ⟨g, 0, none⟩ (.int .u8 m.type)).setCell ⟨g, 1, none⟩ (.int .u8 m.code)).drew = w4 at *
  obtain ⟨_, _, kk, _, _⟩ := K _ x4
  have y1 := IntWalk.u16_in (m.rest / 65536) (by omega)
  go_wp2_with fail
  refine (iputWord w4 (w.heap.size + 1) g 8 c _ o3 4 _ rfl (by omega) (by omega) (m.rest / 65536) (by omega) (by omega)).mono ?_
  rintro e w5 ⟨rfl, o4, b4⟩
  dsimp only
  have x5 := x4.trans b4
  clear y1 o3 x4 b4 kk
  obtain ⟨_, _, kk, _, _⟩ := K _ x5
  have y1 := IntKind.wrap_u16 m.rest
  go_wp2_with fail
  refine (iputWord w5 (w.heap.size + 1) g 8 c _ o4 6 _ rfl (by omega) (by omega) (m.rest % 65536) (by omega) (by omega)).mono ?_
  rintro e w6 ⟨rfl, o5, b5⟩
  dsimp only
  have x6 := x5.trans b5
  clear y1 o4 x5 b5 kk
  rw [sets_ic] at o5
  have hh : [b8 m.type, b8 m.code, 0, 0, b8 (m.rest / 65536 / 256), b8 (m.rest / 65536 % 256), b8 (m.rest % 65536 / 256), b8 (m.rest % 65536 % 256)] = hd8I m := by
    unfold hd8I
    rw [show m.rest / 65536 / 256 = m.rest / 16777216 from by omega, show m.rest % 65536 / 256 = m.rest / 256 % 256 from by omega, show m.rest % 65536 % 256 = m.rest % 256 from by omega]
  rw [hh] at o5
  have HF : Hid (Own w6 w.heap.size g 8 c (hd8I m)) := Go.Lib.hid (World.ownsRow.mono o5 (Nat.le_succ _))
  have xF := b0.trans (x6.mono (Nat.le_succ _))
  clear o5 x6
  go_wp2
  go_ret
  exact ⟨g, c, rfl, HF.out, xF⟩
end Go.Proofs.Ytndhiopfkgdhcaa
