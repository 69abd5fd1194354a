/- Lemmas, several texts in one. -/
import Derived.Test.YtmgkkgpdnopeaaaQ03
import Derived.Deep.RegionHeld3
import Derived.Test.YtmgkkgpdnopeaaaQ01
/- The contract of package icmp's putHead. -/
namespace Go.Proofs.Ytmgkkgpdnopeaaa
open Go.ChangeShapes Go.WideShapes Go.ChangeAt Go.RowKit
set_option linter.unusedVariables false
set_option linter.unusedSimpArgs false

/-- the eight bytes of a head whose check sum is not yet put. -/
def hd8I (m : Ic) : List UInt8 := [b8 m.type, b8 m.code, 0, 0, b8 (m.rest / 16777216), b8 (m.rest / 65536 % 256), b8 (m.rest / 256 % 256), b8 (m.rest % 256)]
theorem icB_hd (m : Ic) : icB m 0 = hd8I m ++ m.body := rfl
theorem sets_ic (x0 x1 x2 x3 x4 x5 : UInt8) : ((((((List.replicate 8 (0 : UInt8)).set 0 x0).set 1 x1).set 4 x2).set (4 + 1) x3).set 6 x4).set (6 + 1) x5 = [x0, x1, 0, 0, x2, x3, x4, x5] := rfl

set_option maxRecDepth 100000 in
set_option maxHeartbeats 4000000 in
theorem iputHead (m : Ic) (Ab : Option Addr) (cb : Nat) (w : World) (hM : MayI m) (r0 : 0 ≤ m.rest) (r1 : m.rest ≤ 4294967295) :
    Calls Try.prog 32 #[icV m Ab cb] w fun e w' => ∃ g c, e = .returned (.slice (some ⟨g, 0, none⟩) 8 c) ∧ Own w' w.heap.size g 8 c (hd8I m) ∧ Below w.heap.size w w' := by
  obtain ⟨i0, hi, hz0, hz1, hz2⟩ := info_parts info_byte
  obtain ⟨s0, s1, d0, d1, fit⟩ := hM
  obtain ⟨c, hc⟩ : ∃ c : Nat, 8 + m.body.length = c := ⟨_, rfl⟩
  have hc' : (8 : Int) + (m.body.length : Int) = (c : Int) := by omega
  have hc8 : 8 ≤ c := by omega
  have hc65 : c ≤ 65535 := by omega
  have hmk : ∀ W : World, (Instr.makeSlice 23 (.int .i64 8) (.int .i64 (c : Int))).run Try.prog W = .ok (.slice (some ⟨W.heap.size, 0, none⟩) 8 c) (W.alloc (.cells (madeCells #[.int .u8 0] c) 5)) := by
    intro W
    have := run_make (P := Try.prog) W 23 5 i0 (.int .u8 0) Try.underlying23 hi hz0 .i64 .i64 8 c (by omega) (by omega) (by rw [hz2]; omega) (by omega)
    simpa [hz1, Value.cells] using this
  have e2 : IntKind.i64.wrap ((8 : Int) + (m.body.length : Int)) = (c : Int) := by rw [hc']; exact IntWalk.i64_in _ (by omega)
  have m0 := icIs.made (w := w) (m := m) (A_body := Ab) (c_body := cb)
  have b0 : Below w.heap.size w (w.alloc (icO m Ab cb)) := (Below.refl _ _).alloc (Nat.le_refl _) _
  have sz : w.heap.size + 1 ≤ (w.alloc (icO m Ab cb)).heap.size := by simp
  clear hc hc' fit
  go_enter Try.func32, Try.ntmps32
  go_upto_region 1 with fail
  generalize w.alloc (.cells #[.int .i64 m.type, .int .i64 m.code, .int .u32 m.rest, .slice Ab m.body.length cb] 43) = W at *
  have M0 := Go.Lib.hid m0
  have K : ∀ Y, Below (w.heap.size + 1) W Y → Y.cell? ⟨w.heap.size, 0, none⟩ = some (.int .i64 m.type) ∧ Y.cell? ⟨w.heap.size, 1, none⟩ = some (.int .i64 m.code) ∧ Y.cell? ⟨w.heap.size, 2, none⟩ = some (.int .u32 m.rest) ∧ Y.cell? ⟨w.heap.size, 3, none⟩ = some (.slice Ab m.body.length cb) ∧ Below (w.heap.size + 1) W Y := fun Y y => by
    obtain ⟨c0, c1, c2, c3⟩ := (M0.out.keep y (Nat.lt_succ_self _)).cells
    exact ⟨c0, c1, c2, c3, y⟩
  obtain ⟨c0, c1, c2, c3⟩ := m0.cells
  clear m0
  go_upto_region 2 with fail
  have o1 := own_made W (w.heap.size + 1) 8 c sz hc8 (by unfold maxLen; omega)
  have x2 : Below (w.heap.size + 1) W (W.alloc (.cells (madeCells #[.int .u8 0] c) 5)) := (Below.refl _ _).alloc sz (.cells (madeCells #[.int .u8 0] c) 5)
  clear hmk e2 c0 c1 c2 c3
  generalize W.alloc (.cells (madeCells #[.int .u8 0] c) 5) = w2 at *
  generalize W.heap.size = g at *
  have x2d : Below (w.heap.size + 1) W w2.drew := below_drew x2
  have o1d : Own w2.drew (w.heap.size + 1) g 8 c (List.replicate 8 0) := o1
  have d0' := o1.cellAt 0 (by omega)
  have f0 := o1.frozenAt 0
  have d1' := o1.cellAt 1 (by omega)
  have f1 := o1.frozenAt 1
  have y1 := IntWalk.u8_in m.type (by omega)
  have y2 := IntWalk.u8_in m.code (by omega)
  clear o1 x2
  refine wp_region_held_drew (S := (fun Y => Y.cell? ⟨w.heap.size, 0, none⟩ = some (.int .i64 m.type) ∧ Y.cell? ⟨w.heap.size, 1, none⟩ = some (.int .i64 m.code) ∧ Y.cell? ⟨w.heap.size, 2, none⟩ = some (.int .u32 m.rest) ∧ Y.cell? ⟨w.heap.size, 3, none⟩ = some (.slice Ab m.body.length cb) ∧ Below (w.heap.size + 1) W Y)) (by kernel_rfl) ?_ (fun hHeld => ?_)
  · exact K _ x2d
  refine wpAnyH_take (i := 0) (oi := ⟨some 9, _, _, _, _, _⟩) (v := ?_) rfl (by kernel_rfl) (by kernel_rfl) (by kernel_rfl) (fun _ _ _ h => h) (Or.inl ⟨by rfl, ?_⟩) (by assumption) ?_
  rotate_left
  · intro w hSw; (try dsimp only at hSw); go_simp; (try with_reducible rfl)
  try simp only [Act.put, List.setIfInBounds_toArray, List.set_cons_zero, List.set_cons_succ]
  refine wpAnyH_take (i := 1) (oi := ⟨some 10, _, _, _, _, _⟩) (v := ?_) rfl (by kernel_rfl) (by kernel_rfl) (by kernel_rfl) (fun _ _ _ h => h) (Or.inl ⟨by rfl, ?_⟩) (by assumption) ?_
  rotate_left
  · intro w hSw; (try dsimp only at hSw); go_simp; (try with_reducible rfl)
  try simp only [Act.put, List.setIfInBounds_toArray, List.set_cons_zero, List.set_cons_succ]
  refine wpAnyH_take (i := 2) (oi := ⟨some 11, _, _, _, _, _⟩) (v := ?_) rfl (by kernel_rfl) (by kernel_rfl) (by kernel_rfl) (fun _ _ _ h => h) (Or.inl ⟨by rfl, ?_⟩) (by assumption) ?_
  rotate_left
  · intro w hSw; (try dsimp only at hSw); go_simp; (try with_reducible rfl)
  try simp only [Act.put, List.setIfInBounds_toArray, List.set_cons_zero, List.set_cons_succ]
  refine wpAnyH_take (i := 3) (oi := ⟨some 12, _, _, _, _, _⟩) (v := ?_) rfl (by kernel_rfl) (by kernel_rfl) (by kernel_rfl) (fun _ _ _ h => h) (Or.inl ⟨by rfl, ?_⟩) (by assumption) ?_
  rotate_left
  · intro w hSw; (try dsimp only at hSw); go_simp; (try with_reducible rfl)
  try simp only [Act.put, List.setIfInBounds_toArray, List.set_cons_zero, List.set_cons_succ]
  refine wpAnyH_take (i := 4) (oi := ⟨some 13, _, _, _, _, _⟩) (v := ?_) rfl (by kernel_rfl) (by kernel_rfl) (by kernel_rfl) (fun _ _ _ h => h) (Or.inl ⟨by rfl, ?_⟩) (by assumption) ?_
  rotate_left
  · intro w hSw; (try dsimp only at hSw); go_simp; (try with_reducible rfl)
  try simp only [Act.put, List.setIfInBounds_toArray, List.set_cons_zero, List.set_cons_succ]
  refine wpAnyH_take (i := 5) (oi := ⟨some 14, _, _, _, _, _⟩) (v := ?_) rfl (by kernel_rfl) (by kernel_rfl) (by kernel_rfl) (fun _ _ _ h => h) (Or.inl ⟨by rfl, ?_⟩) (by assumption) ?_
  rotate_left
  · intro w hSw; (try dsimp only at hSw); go_simp; (try with_reducible rfl)
  try simp only [Act.put, List.setIfInBounds_toArray, List.set_cons_zero, List.set_cons_succ]
  refine wpAnyH_take (i := 6) (oi := ⟨some 15, _, _, _, _, _⟩) (v := ?_) rfl (by kernel_rfl) (by kernel_rfl) (by kernel_rfl) (fun _ _ _ h => h) (Or.inl ⟨by rfl, ?_⟩) (by assumption) ?_
  rotate_left
  · intro w hSw; (try dsimp only at hSw); go_simp; (try with_reducible rfl)
  try simp only [Act.put, List.setIfInBounds_toArray, List.set_cons_zero, List.set_cons_succ]
  refine wpAnyH_take (i := 7) (oi := ⟨some 16, _, _, _, _, _⟩) (v := ?_) rfl (by kernel_rfl) (by kernel_rfl) (by kernel_rfl) (fun _ _ _ h => h) (Or.inl ⟨by rfl, ?_⟩) (by assumption) ?_
  rotate_left
  · intro w hSw; (try dsimp only at hSw); go_simp; (try with_reducible rfl)
  try simp only [Act.put, List.setIfInBounds_toArray, List.set_cons_zero, List.set_cons_succ]
  refine wpAnyH_take (i := 8) (oi := ⟨some 17, _, _, _, _, _⟩) (v := ?_) rfl (by kernel_rfl) (by kernel_rfl) (by kernel_rfl) (fun _ _ _ h => h) (Or.inl ⟨by rfl, ?_⟩) (by assumption) ?_
  rotate_left
  · intro w hSw; (try dsimp only at hSw); go_simp; (try with_reducible rfl)
  try simp only [Act.put, List.setIfInBounds_toArray, List.set_cons_zero, List.set_cons_succ]
  refine wpAnyH_ready (rs := [9]) (by kernel_rfl) (by simp) (AllReadyH.cons (o := ⟨none, _, _, _, _, _⟩) rfl (fun Kc hKc => ?_) AllReadyH.nil)
  go_simp
  obtain ⟨o2, b2⟩ := o1d.stored 0 m.type (by omega) (by omega); have x3 := x2d.trans b2
  clear hHeld
  refine hKc.out _ _ ?_ (fun hHeld => ?_)
  · (try dsimp only); exact K _ x3
  clear hKc Kc
  try simp only [Act.put, List.setIfInBounds_toArray, List.set_cons_zero, List.set_cons_succ]
  refine wpAnyH_take (i := 10) (oi := ⟨some 18, _, _, _, _, _⟩) (v := ?_) rfl (by kernel_rfl) (by kernel_rfl) (by kernel_rfl) (fun _ _ _ h => h) (Or.inl ⟨by rfl, ?_⟩) (by assumption) ?_
  rotate_left
  · intro w hSw; (try dsimp only at hSw); go_simp; (try with_reducible rfl)
  try simp only [Act.put, List.setIfInBounds_toArray, List.set_cons_zero, List.set_cons_succ]
  refine wpAnyH_ready (rs := [11]) (by kernel_rfl) (by simp) (AllReadyH.cons (o := ⟨none, _, _, _, _, _⟩) rfl (fun Kc hKc => ?_) AllReadyH.nil)
  go_simp
  obtain ⟨o3, b3⟩ := o2.stored 1 m.code (by omega) (by omega); have x4 := x3.trans b3
  clear hHeld
  refine hKc.out _ _ ?_ (fun hHeld => ?_)
  · (try dsimp only); exact K _ x4
  clear hKc Kc
  try simp only [Act.put, List.setIfInBounds_toArray, List.set_cons_zero, List.set_cons_succ]
  refine wpAnyH_done (by kernel_rfl) ?_ _
  have o3 : Own ((w2.setCell ⟨g, 0, none⟩ (.int .u8 m.type)).setCell ⟨g, 1, none⟩ (.int .u8 m.code)).drew (w.heap.size + 1) g 8 c (((List.replicate 8 0).set 0 (b8 m.type)).set 1 (b8 m.code)) := o3
  have x4 : Below (w.heap.size + 1) W ((w2.setCell ⟨g, 0, none⟩ (.int .u8 m.type)).setCell ⟨g, 1, none⟩ (.int .u8 m.code)).drew := x4
  clear hHeld d0' f0 d1' f1 o1d o2 x2d x3 b2 b3 y1 y2
  generalize ((w2.setCell ⟨g, 0, none⟩ (.int .u8 m.type)).setCell ⟨g, 1, none⟩ (.int .u8 m.code)).drew = w4 at *
  obtain ⟨_, _, kk, _, _⟩ := K _ x4
  have y1 := IntWalk.u16_in (m.rest / 65536) (by omega)
  go_wp2_with fail
  refine (iputWord w4 (w.heap.size + 1) g 8 c _ o3 4 _ rfl (by omega) (by omega) (m.rest / 65536) (by omega) (by omega)).mono ?_
  rintro e w5 ⟨rfl, o4, b4⟩
  dsimp only
  have x5 := x4.trans b4
  clear y1 o3 x4 b4 kk
  obtain ⟨_, _, kk, _, _⟩ := K _ x5
  have y1 := IntKind.wrap_u16 m.rest
  go_wp2_with fail
  refine (iputWord w5 (w.heap.size + 1) g 8 c _ o4 6 _ rfl (by omega) (by omega) (m.rest % 65536) (by omega) (by omega)).mono ?_
  rintro e w6 ⟨rfl, o5, b5⟩
  dsimp only
  have x6 := x5.trans b5
  clear y1 o4 x5 b5 kk
  rw [sets_ic] at o5
  have hh : [b8 m.type, b8 m.code, 0, 0, b8 (m.rest / 65536 / 256), b8 (m.rest / 65536 % 256), b8 (m.rest % 65536 / 256), b8 (m.rest % 65536 % 256)] = hd8I m := by
    unfold hd8I
    rw [show m.rest / 65536 / 256 = m.rest / 16777216 from by omega, show m.rest % 65536 / 256 = m.rest / 256 % 256 from by omega, show m.rest % 65536 % 256 = m.rest % 256 from by omega]
  rw [hh] at o5
  have HF : Hid (Own w6 w.heap.size g 8 c (hd8I m)) := Go.Lib.hid (World.ownsRow.mono o5 (Nat.le_succ _))
  have xF := b0.trans (x6.mono (Nat.le_succ _))
  clear o5 x6
  go_wp2
  go_ret
  exact ⟨g, c, rfl, HF.out, xF⟩
end Go.Proofs.Ytmgkkgpdnopeaaa

/- The contract of package icmp's Put. -/
namespace Go.Proofs.Ytmgkkgpdnopeaaa
open Go.ChangeShapes Go.WideShapes Go.ChangeAt Go.RowKit
set_option linter.unusedVariables false
set_option linter.unusedSimpArgs false

theorem iof (A : Option Addr) (n c : Nat) (l : List UInt8) (B : Nat) (w : World) (k : Int) (hk : 65535 - fo (tot l) = k) (hn : l.length = n) (h : Bs w B A l) (hl : n ≤ 16777216) (hlc : n ≤ c) (hc : c ≤ 9223372036854775807) :
    Calls Try.prog 34 #[.slice A n c] w fun e w' => e = .returned (.int .u16 k) ∧ ∃ n, w' = w.drewN n := by
  subst hn hk
  exact cof A c l B w h hl hlc (by unfold maxLen; omega)

set_option maxRecDepth 100000 in
set_option maxHeartbeats 1000000 in
theorem iputNo (m : Ic) (Ab : Option Addr) (cb : Nat) (w : World) (hM : ¬ MayI m) (hbl : m.body.length ≤ 16777216) :
    Calls Try.prog 19 #[icV m Ab cb] w fun e w' => e = .returned (.tuple #[.slice none 0 0, .int .i64 1]) ∧ Below w.heap.size w w' := by
  have b0 : Below w.heap.size w (w.alloc (icO m Ab cb)) := (Below.refl _ _).alloc (Nat.le_refl _) _
  obtain ⟨x, hx⟩ : ∃ x : Bool, upB m.type 255 = x := ⟨_, rfl⟩
  obtain ⟨y, hy⟩ : ∃ y : Bool, upB m.code 255 = y := ⟨_, rfl⟩
  have HX := Go.Lib.hid hx
  have HY := Go.Lib.hid hy
  have hz : x = true → y = true → (65535 : Int) < 8 + (m.body.length : Int) := fun h1 h2 => by
    subst h1 h2
    unfold upB at hx hy
    simp only [Bool.and_eq_true, decide_eq_true_eq] at hx hy
    by_cases h : m.body.length ≤ 65527
    · exact absurd ⟨hx.1, hx.2, hy.1, hy.2, h⟩ hM
    · omega
  clear hx hy hM
  have e8 := IntWalk.i64_in ((8 : Int) + (m.body.length : Int)) (by omega)
  cases x
  · clear hz
    go_enter Try.func19, Try.ntmps19
    go_wp2_with fail
    refine (iup_b _ _ false HX.out _).mono ?_
    rintro e w' ⟨rfl, rfl⟩
    dsimp only
    go_wp2
    go_ret2
    exact ⟨rfl, b0⟩
  cases y
  · clear hz
    go_enter Try.func19, Try.ntmps19
    go_wp2_with fail
    refine (iup_b _ _ true HX.out _).mono ?_
    rintro e w' ⟨rfl, rfl⟩
    dsimp only
    go_wp2_with fail
    refine (iup_b _ _ false HY.out _).mono ?_
    rintro e w' ⟨rfl, rfl⟩
    dsimp only
    go_wp2
    go_ret2
    exact ⟨rfl, b0⟩
  · have hz := hz rfl rfl
    go_enter Try.func19, Try.ntmps19
    go_wp2_with fail
    refine (iup_b _ _ true HX.out _).mono ?_
    rintro e w' ⟨rfl, rfl⟩
    dsimp only
    go_wp2_with fail
    refine (iup_b _ _ true HY.out _).mono ?_
    rintro e w' ⟨rfl, rfl⟩
    dsimp only
    go_wp2
    go_ret2
    exact ⟨rfl, b0⟩

set_option maxRecDepth 100000 in
set_option maxHeartbeats 4000000 in
theorem iputYes (m : Ic) (Ab : Option Addr) (cb : Nat) (w : World) (hM : MayI m) (hI : IcIn w w.heap.size m Ab cb) (N : Nat) (hN : N = 8 + m.body.length) :
    Calls Try.prog 19 #[icV m Ab cb] w fun e w' => ∃ g c, e = .returned (.tuple #[.slice (some ⟨g, 0, none⟩) N c, .int .i64 0]) ∧ Own w' w.heap.size g N c (putI m) ∧ Below w.heap.size w w' := by
  obtain ⟨i0, hi, hz0, hz1, hz2⟩ := info_parts info_byte
  have HX : Hid (upB m.type 255 = true) := Go.Lib.hid (by unfold upB; simp [hM.t0, hM.t1])
  have HY : Hid (upB m.code 255 = true) := Go.Lib.hid (by unfold upB; simp [hM.c0, hM.c1])
  have hfit := hM.fit
  have HI := Go.Lib.hid hI
  have HS := Go.Lib.hid hM
  have m0 := icIs.made (w := w) (m := m) (A_body := Ab) (c_body := cb)
  have b0 : Below w.heap.size w (w.alloc (icO m Ab cb)) := (Below.refl _ _).alloc (Nat.le_refl _) _
  have sz : w.heap.size + 1 ≤ (w.alloc (icO m Ab cb)).heap.size := by simp
  have HNN := Go.Lib.hid hN
  have hN2 : N ≤ 65535 := by omega
  have hN3 : 8 ≤ N := by omega
  have e8 := IntWalk.i64_in ((8 : Int) + (m.body.length : Int)) (by omega)
  have e9 : ¬ (65535 : Int) < 8 + (m.body.length : Int) := by omega
  obtain ⟨k, hk⟩ : ∃ k : Int, 65535 - fo (tot (icB m 0)) = k := ⟨_, rfl⟩
  have k0 : 0 ≤ k := hk ▸ chkI_lo m
  have k1 : k ≤ 65535 := hk ▸ chkI_hi m
  have HF : Hid (icB m k = putI m) := Go.Lib.hid (by rw [← hk]; rfl)
  have HK := Go.Lib.hid hk
  clear hM hI hN hk
  go_enter Try.func19, Try.ntmps19
  go_upto_region 1 with fail
  generalize w.alloc (.cells #[.int .i64 m.type, .int .i64 m.code, .int .u32 m.rest, .slice Ab m.body.length cb] 43) = W at *
  have M0 := Go.Lib.hid m0
  have K : ∀ Y, Below (w.heap.size + 1) W Y → Y.cell? ⟨w.heap.size, 0, none⟩ = some (.int .i64 m.type) ∧ Y.cell? ⟨w.heap.size, 1, none⟩ = some (.int .i64 m.code) ∧ Y.cell? ⟨w.heap.size, 2, none⟩ = some (.int .u32 m.rest) ∧ Y.cell? ⟨w.heap.size, 3, none⟩ = some (.slice Ab m.body.length cb) ∧ Below (w.heap.size + 1) W Y := fun Y y => by
    obtain ⟨c0, c1, c2, c3⟩ := (M0.out.keep y (Nat.lt_succ_self _)).cells
    exact ⟨c0, c1, c2, c3, y⟩
  obtain ⟨c0, c1, c2, c3⟩ := m0.cells
  clear m0
  go_wp2_with fail
  refine (iup_b _ _ true HX.out _).mono ?_
  rintro e w' ⟨rfl, rfl⟩
  dsimp only
  go_wp2_with fail
  refine (iup_b _ _ true HY.out _).mono ?_
  rintro e w' ⟨rfl, rfl⟩
  dsimp only
  have x1 : Below (w.heap.size + 1) W W := Below.refl _ _
  go_upto_region 3 with fail
  clear c0 c1 c2 c3
  go_region_held3 (fun Y => Y.cell? ⟨w.heap.size, 0, none⟩ = some (.int .i64 m.type) ∧ Y.cell? ⟨w.heap.size, 1, none⟩ = some (.int .i64 m.code) ∧ Y.cell? ⟨w.heap.size, 2, none⟩ = some (.int .u32 m.rest) ∧ Y.cell? ⟨w.heap.size, 3, none⟩ = some (.slice Ab m.body.length cb) ∧ Below (w.heap.size + 1) W Y)
    (first
      | exact K _ (below_drew x1)
      | exact K _ (hx2.trans ((Below.refl _ _).grown hg (Nat.le_trans sz hx2.size) hblk))
      | exact K _ (hx.trans (hcall.mono (Nat.le_trans sz hx.size))))
    (first
      | (go_at_call 32; obtain ⟨_, _, _, _, hx⟩ := ‹_ ∧ _›; refine (iputHead m Ab cb _ HS.out HI.out.r0 HI.out.r1).mono ?_; rintro e w2 ⟨g, c, rfl, hown, hcall⟩)
      | (obtain ⟨_, _, _, _, hx2⟩ := ‹_ ∧ _›; have hblk : ∀ k, (Value.slice (some ⟨g, 0, none⟩) 8 c).ownBlock = some k → w.heap.size + 1 ≤ k := (fun k hk => by have := hown.lt.1; have := hx.size; simp [Value.ownBlock] at hk; omega); refine step_append_rd rfl _ _ 23 rfl (w.heap.size + 1) 5 i0 (.int .u8 0) 1 Try.underlying23 hi hz0 hz1 hz2 rfl _ _ _ rfl (World.ownsRow.mono hown (Nat.le_trans sz hx.size)) w.heap.size Ab _ cb (m.body.map bv) rfl (by simp) HI.out.bnil ((HI.out.bs.below b0).below (hx2.mono (Nat.le_succ _))).rd (bv_one _) (by unfold maxLen; omega) (by omega) (Nat.le_trans sz hx2.size) ?_; intro v3 w3 hown3 hg hat))
  all_goals
    obtain ⟨-, -, -, -, hx3⟩ := ‹_ ∧ _›
    have hNE := HNN.out
    rw [← hNE] at hown3
    obtain ⟨g', c', rfl, _, _, _, _⟩ := own_form hown3 (by omega)
    have HO3 : Own w3 (w.heap.size + 1) g' N c' (icB m 0) := by
      unfold Own
      rw [icB_hd, List.map_append]
      exact hown3
    clear hown3 hown hcall hx hx2 hg hat hblk hNE
    have H3 := Go.Lib.hid HO3
    have hcap := HO3.cap
    unfold maxLen at hcap
    obtain ⟨hcap1, hcap2⟩ := hcap
    clear HO3
    go_wp2_with fail
    refine (iof (some ⟨g', 0, none⟩) N c' (icB m 0) w3.heap.size _ k HK.out H3.out.len H3.out.bs (by omega) hcap1 (by omega)).mono ?_
    rintro e w4 ⟨rfl, m4, rfl⟩
    dsimp only
    have H4 : Hid (Own (w3.drewN m4) (w.heap.size + 1) g' N c' (icB m 0)) := Go.Lib.hid H3.out
    have hx4 : Below (w.heap.size + 1) W (w3.drewN m4) := below_dn hx3 m4
    clear H3 hx3
    generalize w3.drewN m4 = w4 at *
    go_wp2_with fail
    refine (iputWord w4 (w.heap.size + 1) g' N c' _ H4.out 2 _ rfl (by omega) (by omega) k k0 k1).mono ?_
    rintro e w5 ⟨rfl, o5, b5⟩
    dsimp only
    rw [ic_set m k, HF.out] at o5
    have H5 := Go.Lib.hid (World.ownsRow.mono o5 (Nat.le_succ _))
    have hx5 := b0.trans ((hx4.trans b5).mono (Nat.le_succ _))
    clear o5 hx4 b5 H4
    go_wp2
    go_ret2
    exact ⟨g', c', rfl, H5.out, hx5⟩
/-- what the document's Put has, package icmp's has. -/
theorem iputI (m : Ic) (Ab : Option Addr) (cb : Nat) (L : List UInt8) (n : Nat) (r : Int) (hL : PutIL m L n r) (w : World) (hI : IcIn w w.heap.size m Ab cb) (hbl : m.body.length ≤ 16777216) :
    Calls Try.prog 19 #[icV m Ab cb] w (PutPost L n r w) := by
  by_cases hm : MayI m
  · obtain ⟨rfl, hn, rfl⟩ := hL.yes hm
    refine (iputYes m Ab cb w hm hI n hn).mono ?_
    rintro e w' ⟨g, c, rfl, ho, hb⟩
    exact PutPost.of _ c rfl ho.bs hb
  · obtain ⟨rfl, rfl, rfl⟩ := hL.no hm
    refine (iputNo m Ab cb w hm hbl).mono ?_
    rintro e w' ⟨rfl, hb⟩
    exact PutPost.of _ 0 rfl Bs.nil_ hb
end Go.Proofs.Ytmgkkgpdnopeaaa

/- Statements of layer 9: what a program that does nothing gets wrong. -/
namespace Go.Proofs.Ytmgkkgpdnopeaaa
open Go.ChangeShapes Go.WideShapes Go.ChangeAt Go.RowKit
set_option linter.unusedVariables false
set_option linter.unusedSimpArgs false

set_option maxRecDepth 100000 in
theorem hash_awake : (hashT ⟨1, 1, 7, 2, 7⟩ 0 != 0) = true := by decide +kernel
theorem of_awake : ofP ⟨0, 0, false, false, 0, 0, 1, 1, 2, [], putI ⟨8, 0, 458752, []⟩⟩ = (⟨1, 1, 7, 2, 7⟩, 0) := of_echo 8 0 458752 1 2 (.inl rfl) (by decide) (by decide) (by decide) (by decide)
theorem field_src (t : Tp) (W : World) : (Instr.field 27 (tpV t) 1).run Try.prog W = .ok (.int .u32 t.src) W := by
  have u4 := Try.underlying22
  have a4 := Try.isAgg22
  have z4 := Try.sizeOf22
  have u := Try.underlying27
  unfold Instr.field
  go_simp
  rfl
set_option maxRecDepth 100000 in
set_option maxHeartbeats 8000000 in
theorem cawake9 (kO : OfC9) (kT : TurnC9) (kH : HashC9) : AwakeC9 := by
  intro w
  have r0 : RngTp ⟨1, 1, 7, 2, 7⟩ := ⟨by decide, by decide, by decide, by decide⟩
  have kT1 : ∀ W, Calls Try.prog 11 #[tpV ⟨1, 1, 7, 2, 7⟩] W fun e w' => e = .returned (tpV ⟨1, 2, 7, 1, 7⟩) ∧ Below W.heap.size W w' := fun W => kT ⟨1, 1, 7, 2, 7⟩ W r0
  obtain ⟨hv, hhv⟩ : ∃ hv, hashT ⟨1, 1, 7, 2, 7⟩ 0 = hv := ⟨_, rfl⟩
  have kH1 : ∀ W, Calls Try.prog 15 #[tpV ⟨1, 1, 7, 2, 7⟩, .int .u32 0] W fun e w' => e = .returned (.int .u32 hv) ∧ Below W.heap.size W w' := fun W => kH ⟨1, 1, 7, 2, 7⟩ 0 W hv hhv r0 (by decide) (by decide)
  have th : (hv != 0) = true := hhv ▸ hash_awake
  have M8 : MayI ⟨8, 0, 458752, []⟩ := (mayI_iff _).1 (by decide)
  have I8 : IcIn w w.heap.size ⟨8, 0, 458752, []⟩ none 0 := ⟨by decide, by decide, Nat.le_refl _, by omega, fun _ => rfl, .inl rfl⟩
  clear hhv
  have HK := Go.Lib.hid kO
  have HT := Go.Lib.hid kT1
  have HH := Go.Lib.hid kH1
  clear kO kT kH kT1 kH1
  go_enter Try.func7, Try.ntmps7
  go_upto_region 3 with (first
    | (go_at_call 19; refine (iputYes ⟨8, 0, 458752, []⟩ none 0 w M8 I8 8 rfl).mono ?_; rintro e w1 ⟨g, c, rfl, hown, y1⟩; have HOW := Go.Lib.hid hown; clear hown; dsimp only)
    | (go_at_call 9; refine (HK.out ⟨0, 0, false, false, 0, 0, 1, 1, 2, [], putI ⟨8, 0, 458752, []⟩⟩ none 0 (some ⟨g, 0, none⟩) c w1 (⟨1, 1, 7, 2, 7⟩, 0) of_awake (pkIn_own HOW.out (by rw [putI_length]; rfl) rfl rfl ⟨by decide, by decide, by decide, by decide⟩) (by decide) (by decide)).mono ?_; rintro e w2 ⟨rfl, y2⟩; dsimp only))
  have x4 : Below w.heap.size w (w2.alloc (oTp ⟨1, 1, 7, 2, 7⟩)) := below_alloc (y1.trans (y2.mono y1.size)) (Nat.le_trans y1.size y2.size) _
  have B3 := Go.Lib.hid (Bxo.made w2 27 (tpL ⟨1, 1, 7, 2, 7⟩))
  have eq1 : ∀ W, (binOp .eql 27 (tpV ⟨1, 1, 7, 2, 7⟩) (tpV ⟨1, 1, 7, 2, 7⟩)).run Try.prog W = .ok (.bool true) W := fun W => (eqTp _ _ W).trans (by rfl)
  have fs1 : ∀ W, (Instr.field 27 (tpV ⟨1, 2, 7, 1, 7⟩) 1).run Try.prog W = .ok (.int .u32 2) W := field_src _
  generalize w2.alloc (.cells (tpL ⟨1, 1, 7, 2, 7⟩).toArray 27) = W4 at *
  generalize w2.heap.size = g3 at *
  have kT1 := HT.out
  have kH1 := HH.out
  go_wp2_with (first
    | (refine wpList_load_box rfl 27 _ rfl g3 rfl (tpL ⟨1, 1, 7, 2, 7⟩) _ B3.out Try.underlying27 rfl info_tp ?_)
    | (go_at_call 11; refine (kT1 W4).mono ?_; rintro e w5 ⟨rfl, y5⟩; have B3 := Go.Lib.hid (B3.out.keep y5 B3.out.lt); dsimp only)
    | (go_at_call 15; refine (kH1 w5).mono ?_; rintro e w6 ⟨rfl, y6⟩; dsimp only))
  go_ret
  exact ⟨rfl, x4.trans ((y5.trans (y6.mono y5.size)).mono x4.size)⟩
end Go.Proofs.Ytmgkkgpdnopeaaa
