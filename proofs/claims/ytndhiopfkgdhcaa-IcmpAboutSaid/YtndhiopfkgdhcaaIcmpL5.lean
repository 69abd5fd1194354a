/- Statements of layer 6, walked: any message is put as the document says; it asks, answers, is an error, and has a name, as it says. -/
import Derived.Deep.RegionHeld3
import Derived.Deep.DeepCutAuto
import Derived.Deep.CutBlock
import Derived.Test.YtndhiopfkgdhcaaIcmpL4
namespace Go.Proofs.Ytndhiopfkgdhcaa
open Go.ChangeShapes Go.WideShapes Go.ChangeAt Go.RowKit
set_option linter.unusedVariables false
set_option linter.unusedSimpArgs false

/-- two boxed messages. -/
structure Bj (t : Ic) (Ab : Option Addr) (cb : Nat) (u : Ic) (Ab' : Option Addr) (cb' : Nat) (w w' : World) : Prop where
  b : Below (w.heap.size + 2) ((w.alloc (icO t Ab cb)).alloc (icO u Ab' cb')) w'
section
variable {t u : Ic} {Ab : Option Addr} {cb : Nat} {Ab' : Option Addr} {cb' : Nat} {w w' w'' : World}
theorem Bj.start : Bj t Ab cb u Ab' cb' w ((w.alloc (icO t Ab cb)).alloc (icO u Ab' cb')) := ⟨Below.refl _ _⟩
theorem Bj.size (h : Bj t Ab cb u Ab' cb' w w') : w.heap.size + 2 ≤ w'.heap.size := by have := h.b.size; simpa using this
theorem Bj.call (h : Bj t Ab cb u Ab' cb' w w') (hb : Below w'.heap.size w' w'') : Bj t Ab cb u Ab' cb' w w'' := ⟨h.b.trans (hb.mono h.size)⟩
theorem Bj.below (h : Bj t Ab cb u Ab' cb' w w') : Below w.heap.size w w' := (((Below.refl _ _).alloc (Nat.le_refl _) _).alloc (by simp) _).trans (h.b.mono (by omega))
theorem Bj.cells (h : Bj t Ab cb u Ab' cb' w w') : w'.cell? ⟨w.heap.size, 0, none⟩ = some (.int .i64 t.type) ∧ w'.cell? ⟨w.heap.size, 1, none⟩ = some (.int .i64 t.code) ∧ w'.cell? ⟨w.heap.size, 2, none⟩ = some (.int .u32 t.rest) ∧ w'.cell? ⟨w.heap.size, 3, none⟩ = some (.slice Ab t.body.length cb) ∧ w'.cell? ⟨w.heap.size + 1, 0, none⟩ = some (.int .i64 u.type) ∧ w'.cell? ⟨w.heap.size + 1, 1, none⟩ = some (.int .i64 u.code) ∧ w'.cell? ⟨w.heap.size + 1, 2, none⟩ = some (.int .u32 u.rest) ∧ w'.cell? ⟨w.heap.size + 1, 3, none⟩ = some (.slice Ab' u.body.length cb') := by
  have s1 : w.heap.size < (w.alloc (icO t Ab cb)).heap.size := by simp
  have m1 : icIs ((w.alloc (icO t Ab cb)).alloc (icO u Ab' cb')) w.heap.size t Ab cb := icIs.call icIs.made ((Below.refl _ _).alloc (Nat.le_refl _) _) s1
  have m2 : icIs ((w.alloc (icO t Ab cb)).alloc (icO u Ab' cb')) (w.heap.size + 1) u Ab' cb' := by
    have := icIs.made (w := w.alloc (icO t Ab cb)) (m := u) (A_body := Ab') (c_body := cb')
    simpa using this
  obtain ⟨c0, c1, c2, c3⟩ := (m1.keep h.b (by omega)).cells
  obtain ⟨d0, d1, d2, d3⟩ := (m2.keep h.b (by omega)).cells
  exact ⟨c0, c1, c2, c3, d0, d1, d2, d3⟩
end
set_option maxRecDepth 100000 in
set_option maxHeartbeats 16000000 in
theorem putsI (t : Ic) (Ab : Option Addr) (cb : Nat) (u : Ic) (Ab' : Option Addr) (cb' : Nat) (w : World) (h : IcIn w w.heap.size t Ab cb) (h' : IcIn w w.heap.size u Ab' cb') :
    Calls Try.prog 3 #[icV t Ab cb, icV u Ab' cb'] w fun e w' => e = .returned (.bool true) ∧ Below w.heap.size w w' := by
  have HI := Go.Lib.hid h
  have HJ := Go.Lib.hid h'
  have bl := h.blen
  have bc := h.bcap
  have bl' := h'.blen
  have bc' := h'.bcap
  have br0 := h.r0
  have br1 := h.r1
  obtain ⟨L, n, r, hL⟩ := putIL t
  have HL := Go.Lib.hid hL
  have HLL := Go.Lib.hid hL.len
  have hn65 := hL.small
  obtain ⟨x, hx⟩ : ∃ x : Bool, askK t.type = x := ⟨_, rfl⟩
  obtain ⟨y, hy⟩ : ∃ y : Bool, ansK t.type = y := ⟨_, rfl⟩
  obtain ⟨z, hz⟩ : ∃ z : Bool, errK t.type = z := ⟨_, rfl⟩
  obtain ⟨nm, hnm⟩ : ∃ nm : Int, nameI t = nm := ⟨_, rfl⟩
  have HN := Go.Lib.hid hnm
  unfold nameI at hnm
  rw [hx, hy] at hnm
  have HNM := Go.Lib.hid hnm
  have HX := Go.Lib.hid hx
  have HY := Go.Lib.hid hy
  have HZ := Go.Lib.hid hz
  have e1 := IntWalk.i64_in (t.rest / 65536) (by omega)
  clear h h' hL hx hy hz hnm
  go_enter Try.func3, Try.ntmps3
  go_wp2_with fail
  refine (awakeI _).mono ?_
  rintro e w1 ⟨rfl, hb1⟩
  dsimp only
  have x1 := (Bj.start (t := t) (Ab := Ab) (cb := cb) (u := u) (Ab' := Ab') (cb' := cb') (w := w)).call hb1
  clear hb1
  obtain ⟨c0, c1, c2, c3, d0, d1, d2, d3⟩ := x1.cells
  by_cases h3 : (3000 : Int) < (t.body.length : Int)
  · go_wp2
    go_ret
    exact ⟨rfl, x1.below⟩
  by_cases h4 : (3000 : Int) < (u.body.length : Int)
  · go_wp2
    go_ret
    exact ⟨rfl, x1.below⟩
  go_wp2_with fail
  refine (iputI t Ab cb L n r HL.out _ (HI.out.at x1.below) (by omega)).mono ?_
  rintro e w4 ⟨A1, k1, rfl, hB4, hb4⟩
  dsimp only
  have x4 := x1.call hb4
  have HB4' := Go.Lib.hid hB4
  clear hb4 hB4 x1 c0 c1 c2 c3 d0 d1 d2 d3
  obtain ⟨c0, c1, c2, c3, d0, d1, d2, d3⟩ := x4.cells
  go_wp2_with fail
  refine (rputI t Ab cb L n r HL.out _ (HI.out.at x4.below)).mono ?_
  rintro e w5 ⟨A2, k2, rfl, hB5, hb5⟩
  dsimp only
  have x5 := x4.call hb5
  have HB4 := Go.Lib.hid ((HB4'.out.below hb5).more hb5.size)
  have HB5 := Go.Lib.hid hB5
  clear hb5 hB5 x4 HB4' c0 c1 c2 c3 d0 d1 d2 d3
  obtain ⟨c0, c1, c2, c3, d0, d1, d2, d3⟩ := x5.cells
  obtain ⟨v, hv⟩ : ∃ v, sameI t u = v := ⟨_, rfl⟩
  have HV := Go.Lib.hid hv
  clear hv
  go_upto_region 7 with fail
  go_cut [9, 10] (fun s9 s10 wx => s9 = .bool x ∧ s10 = .bool y ∧ ∃ nq, wx = w5.drewN nq)
  case first =>
    have hx := HX.out
    have hy := HY.out
    unfold askK at hx
    unfold ansK at hy
    by_cases k8 : t.type = 8
    · have t8 : (t.type == 8) = true := by simpa using k8
      have t0 : (t.type == 0) = false := by rw [k8]; rfl
      have t14 : (t.type == 14) = false := by rw [k8]; rfl
      rw [t8] at hx
      rw [t0, t14] at hy
      subst hx hy
      clear k8
      go_quiet (fail)
      go_wp2
      go_meet
      exact ⟨rfl, rfl, _, rfl⟩
    have t8 : (t.type == 8) = false := by simpa using k8
    rw [t8] at hx
    by_cases k0 : t.type = 0
    · have t13 : (t.type == 13) = false := by rw [k0]; rfl
      have t0 : (t.type == 0) = true := by simpa using k0
      rw [t13] at hx
      rw [t0] at hy
      subst hx hy
      clear k8 k0
      go_quiet (fail)
      go_wp2
      go_meet
      exact ⟨rfl, rfl, _, rfl⟩
    have t0 : (t.type == 0) = false := by simpa using k0
    rw [t0] at hy
    generalize h13 : (t.type == 13) = b13 at *
    generalize h14 : (t.type == 14) = b14 at *
    clear k8 k0
    cases b13 <;> cases b14
    all_goals
      subst hx hy
      go_quiet (fail)
      go_wp2
      go_meet
      exact ⟨rfl, rfl, _, rfl⟩
  case rest =>
  obtain ⟨rfl, rfl, nq, rfl⟩ := hcut
  cases x
  all_goals
    go_upto_if 53 with fail
    go_cut [11] (fun s11 wx => s11 = .int .i64 nm ∧ wx = w5.drewN nq)
    case first =>
      have hnm := HNM.out
      cases y
      all_goals
        go_wp2
        go_meet
        exact ⟨by first | (rw [← hnm]; rfl) | (simp at hnm; simp [hnm]), rfl⟩
    case rest =>
    obtain ⟨rfl, rfl⟩ := hcut
    have K : ∀ Y, Below w5.heap.size w5 Y → Y.cell? ⟨w.heap.size, 0, none⟩ = some (.int .i64 t.type) ∧ Y.cell? ⟨w.heap.size, 1, none⟩ = some (.int .i64 t.code) ∧ Y.cell? ⟨w.heap.size, 2, none⟩ = some (.int .u32 t.rest) ∧ Y.cell? ⟨w.heap.size, 3, none⟩ = some (.slice Ab t.body.length cb) ∧ Y.cell? ⟨w.heap.size + 1, 0, none⟩ = some (.int .i64 u.type) ∧ Y.cell? ⟨w.heap.size + 1, 1, none⟩ = some (.int .i64 u.code) ∧ Y.cell? ⟨w.heap.size + 1, 2, none⟩ = some (.int .u32 u.rest) ∧ Y.cell? ⟨w.heap.size + 1, 3, none⟩ = some (.slice Ab' u.body.length cb') ∧ Below w5.heap.size w5 Y := fun Y y => by
      obtain ⟨c0, c1, c2, c3, d0, d1, d2, d3⟩ := (x5.call y).cells
      exact ⟨c0, c1, c2, c3, d0, d1, d2, d3, y⟩
    have y0 : Below w5.heap.size w5 (w5.drewN nq).drew := below_drew (below_dn (Below.refl _ _) nq)
    clear c0 c1 c2 c3 d0 d1 d2 d3
    generalize w5.drewN nq = w6 at *
    go_upto_region 11 with fail
    refine wp_region_held_drew (S := (fun Y => Y.cell? ⟨w.heap.size, 0, none⟩ = some (.int .i64 t.type) ∧ Y.cell? ⟨w.heap.size, 1, none⟩ = some (.int .i64 t.code) ∧ Y.cell? ⟨w.heap.size, 2, none⟩ = some (.int .u32 t.rest) ∧ Y.cell? ⟨w.heap.size, 3, none⟩ = some (.slice Ab t.body.length cb) ∧ Y.cell? ⟨w.heap.size + 1, 0, none⟩ = some (.int .i64 u.type) ∧ Y.cell? ⟨w.heap.size + 1, 1, none⟩ = some (.int .i64 u.code) ∧ Y.cell? ⟨w.heap.size + 1, 2, none⟩ = some (.int .u32 u.rest) ∧ Y.cell? ⟨w.heap.size + 1, 3, none⟩ = some (.slice Ab' u.body.length cb') ∧ Below w5.heap.size w5 Y)) (by kernel_rfl) ?_ (fun hHeld => ?_)
    · exact K _ y0
    refine wpAnyH_take (i := 0) (oi := ⟨some 58, _, _, _, _, _⟩) (v := ?_) rfl (by kernel_rfl) (by kernel_rfl) (by kernel_rfl) (fun _ _ _ h => h) (Or.inl ⟨by rfl, ?_⟩) (by assumption) ?_
    rotate_left
    · intro w hSw; (try dsimp only at hSw); go_simp; (try with_reducible rfl)
    try simp only [Act.put, List.setIfInBounds_toArray, List.set_cons_zero, List.set_cons_succ]
    refine wpAnyH_take (i := 1) (oi := ⟨some 59, _, _, _, _, _⟩) (v := ?_) rfl (by kernel_rfl) (by kernel_rfl) (by kernel_rfl) (fun _ _ _ h => h) (Or.inl ⟨by rfl, ?_⟩) (by assumption) ?_
    rotate_left
    · intro w hSw; (try dsimp only at hSw); go_simp; (try with_reducible rfl)
    try simp only [Act.put, List.setIfInBounds_toArray, List.set_cons_zero, List.set_cons_succ]
    refine wpAnyH_take (i := 2) (oi := ⟨some 60, _, _, _, _, _⟩) (v := ?_) rfl (by kernel_rfl) (by kernel_rfl) (by kernel_rfl) (fun _ _ _ h => h) (Or.inl ⟨by rfl, ?_⟩) (by assumption) ?_
    rotate_left
    · intro w hSw; (try dsimp only at hSw); go_simp; (try with_reducible rfl)
    try simp only [Act.put, List.setIfInBounds_toArray, List.set_cons_zero, List.set_cons_succ]
    refine wpAnyH_take (i := 3) (oi := ⟨some 61, _, _, _, _, _⟩) (v := ?_) rfl (by kernel_rfl) (by kernel_rfl) (by kernel_rfl) (fun _ _ _ h => h) (Or.inl ⟨by rfl, ?_⟩) (by assumption) ?_
    rotate_left
    · intro w hSw; (try dsimp only at hSw); go_simp; (try with_reducible rfl)
    try simp only [Act.put, List.setIfInBounds_toArray, List.set_cons_zero, List.set_cons_succ]
    refine wpAnyH_take (i := 4) (oi := ⟨some 62, _, _, _, _, _⟩) (v := ?_) rfl (by kernel_rfl) (by kernel_rfl) (by kernel_rfl) (fun _ _ _ h => h) (Or.inl ⟨by rfl, ?_⟩) (by assumption) ?_
    rotate_left
    · intro w hSw; (try dsimp only at hSw); go_simp; (try with_reducible rfl)
    try simp only [Act.put, List.setIfInBounds_toArray, List.set_cons_zero, List.set_cons_succ]
    refine wpAnyH_take (i := 5) (oi := ⟨some 63, _, _, _, _, _⟩) (v := ?_) rfl (by kernel_rfl) (by kernel_rfl) (by kernel_rfl) (fun _ _ _ h => h) (Or.inl ⟨by rfl, ?_⟩) (by assumption) ?_
    rotate_left
    · intro w hSw; (try dsimp only at hSw); go_simp; (try with_reducible rfl)
    try simp only [Act.put, List.setIfInBounds_toArray, List.set_cons_zero, List.set_cons_succ]
    refine wpAnyH_ready (rs := [6]) (by kernel_rfl) (by simp) (AllReadyH.cons (o := ⟨some 64, _, _, _, _, _⟩) rfl (fun Kc hKc => ?_) AllReadyH.nil)
    go_simp
    go_at_call 11; refine (same_y A1 n k1 L A2 n k2 L w5.heap.size w5.heap.size w5 _ true (by simp) HLL.out HLL.out HB4.out (Nat.le_refl _) HB5.out (Nat.le_refl _) (by omega) (by omega) y0).mono ?_; rintro e v1 ⟨rfl, y1⟩
    clear hHeld
    refine hKc.out _ _ ?_ (fun hHeld => ?_)
    · (try dsimp only); exact K _ y1
    clear hKc Kc
    try simp only [Act.put, List.setIfInBounds_toArray, List.set_cons_zero, List.set_cons_succ]
    refine wpAnyH_take (i := 7) (oi := ⟨some 65, _, _, _, _, _⟩) (v := ?_) rfl (by kernel_rfl) (by kernel_rfl) (by kernel_rfl) (fun _ _ _ h => h) (Or.inl ⟨by rfl, ?_⟩) (by assumption) ?_
    rotate_left
    · intro w hSw; (try dsimp only at hSw); go_simp; (try with_reducible rfl)
    try simp only [Act.put, List.setIfInBounds_toArray, List.set_cons_zero, List.set_cons_succ]
    refine wpAnyH_take (i := 8) (oi := ⟨some 66, _, _, _, _, _⟩) (v := ?_) rfl (by kernel_rfl) (by kernel_rfl) (by kernel_rfl) (fun _ _ _ h => h) (Or.inl ⟨by rfl, ?_⟩) (by assumption) ?_
    rotate_left
    · intro w hSw; (try dsimp only at hSw); go_simp; (try with_reducible rfl)
    try simp only [Act.put, List.setIfInBounds_toArray, List.set_cons_zero, List.set_cons_succ]
    refine wpAnyH_take (i := 9) (oi := ⟨some 67, _, _, _, _, _⟩) (v := ?_) rfl (by kernel_rfl) (by kernel_rfl) (by kernel_rfl) (fun _ _ _ h => h) (Or.inl ⟨by rfl, ?_⟩) (by assumption) ?_
    rotate_left
    · intro w hSw; (try dsimp only at hSw); go_simp; (try with_reducible rfl)
    try simp only [Act.put, List.setIfInBounds_toArray, List.set_cons_zero, List.set_cons_succ]
    refine wpAnyH_take (i := 10) (oi := ⟨some 68, _, _, _, _, _⟩) (v := ?_) rfl (by kernel_rfl) (by kernel_rfl) (by kernel_rfl) (fun _ _ _ h => h) (Or.inl ⟨by rfl, ?_⟩) (by assumption) ?_
    rotate_left
    · intro w hSw; (try dsimp only at hSw); go_simp; (try with_reducible rfl)
    try simp only [Act.put, List.setIfInBounds_toArray, List.set_cons_zero, List.set_cons_succ]
    refine wpAnyH_take (i := 12) (oi := ⟨some 70, _, _, _, _, _⟩) (v := ?_) rfl (by kernel_rfl) (by kernel_rfl) (by kernel_rfl) (fun _ _ _ h => h) (Or.inl ⟨by rfl, ?_⟩) (by assumption) ?_
    rotate_left
    · intro w hSw; (try dsimp only at hSw); go_simp; (try with_reducible rfl)
    try simp only [Act.put, List.setIfInBounds_toArray, List.set_cons_zero, List.set_cons_succ]
    refine wpAnyH_take (i := 13) (oi := ⟨some 71, _, _, _, _, _⟩) (v := ?_) rfl (by kernel_rfl) (by kernel_rfl) (by kernel_rfl) (fun _ _ _ h => h) (Or.inl ⟨by rfl, ?_⟩) (by assumption) ?_
    rotate_left
    · intro w hSw; (try dsimp only at hSw); go_simp; (try with_reducible rfl)
    try simp only [Act.put, List.setIfInBounds_toArray, List.set_cons_zero, List.set_cons_succ]
    refine wpAnyH_ready (rs := [11]) (by kernel_rfl) (by simp) (AllReadyH.cons (o := ⟨some 69, _, _, _, _, _⟩) rfl (fun Kc hKc => ?_) AllReadyH.nil)
    go_simp
    go_at_call 12; refine (isameI_v t Ab cb u Ab' cb' w.heap.size _ (x5.call y1).below.size (HI.out.bs.below (x5.call y1).below) (HJ.out.bs.below (x5.call y1).below) v HV.out).mono ?_; rintro e v2 ⟨rfl, b2⟩; have y2 := y1.trans (b2.mono y1.size)
    clear hHeld
    refine hKc.out _ _ ?_ (fun hHeld => ?_)
    · (try dsimp only); exact K _ y2
    clear hKc Kc
    try simp only [Act.put, List.setIfInBounds_toArray, List.set_cons_zero, List.set_cons_succ]
    refine wpAnyH_ready (rs := [14]) (by kernel_rfl) (by simp) (AllReadyH.cons (o := ⟨some 72, _, _, _, _, _⟩) rfl (fun Kc hKc => ?_) AllReadyH.nil)
    go_simp
    go_at_call 13; refine (rsameI_v t Ab cb u Ab' cb' w.heap.size _ (x5.call y2).below.size (HI.out.bs.below (x5.call y2).below) (HJ.out.bs.below (x5.call y2).below) (by omega) (by omega) v HV.out).mono ?_; rintro e v3 ⟨rfl, b3⟩; have y3 := y2.trans (b3.mono y2.size)
    clear hHeld
    refine hKc.out _ _ ?_ (fun hHeld => ?_)
    · (try dsimp only); exact K _ y3
    clear hKc Kc
    try simp only [Act.put, List.setIfInBounds_toArray, List.set_cons_zero, List.set_cons_succ]
    refine wpAnyH_take (i := 15) (oi := ⟨some 73, _, _, _, _, _⟩) (v := ?_) rfl (by kernel_rfl) (by kernel_rfl) (by kernel_rfl) (fun _ _ _ h => h) (Or.inl ⟨by rfl, ?_⟩) (by assumption) ?_
    rotate_left
    · intro w hSw; (try dsimp only at hSw); go_simp; (try with_reducible rfl)
    try simp only [Act.put, List.setIfInBounds_toArray, List.set_cons_zero, List.set_cons_succ]
    refine wpAnyH_take (i := 16) (oi := ⟨some 74, _, _, _, _, _⟩) (v := ?_) rfl (by kernel_rfl) (by kernel_rfl) (by kernel_rfl) (fun _ _ _ h => h) (Or.inl ⟨by rfl, ?_⟩) (by assumption) ?_
    rotate_left
    · intro w hSw; (try dsimp only at hSw); go_simp; (try with_reducible rfl)
    try simp only [Act.put, List.setIfInBounds_toArray, List.set_cons_zero, List.set_cons_succ]
    refine wpAnyH_take (i := 17) (oi := ⟨some 75, _, _, _, _, _⟩) (v := ?_) rfl (by kernel_rfl) (by kernel_rfl) (by kernel_rfl) (fun _ _ _ h => h) (Or.inl ⟨by rfl, ?_⟩) (by assumption) ?_
    rotate_left
    · intro w hSw; (try dsimp only at hSw); go_simp; (try with_reducible rfl)
    try simp only [Act.put, List.setIfInBounds_toArray, List.set_cons_zero, List.set_cons_succ]
    refine wpAnyH_take (i := 18) (oi := ⟨some 76, _, _, _, _, _⟩) (v := ?_) rfl (by kernel_rfl) (by kernel_rfl) (by kernel_rfl) (fun _ _ _ h => h) (Or.inl ⟨by rfl, ?_⟩) (by assumption) ?_
    rotate_left
    · intro w hSw; (try dsimp only at hSw); go_simp; (try with_reducible rfl)
    try simp only [Act.put, List.setIfInBounds_toArray, List.set_cons_zero, List.set_cons_succ]
    refine wpAnyH_take (i := 20) (oi := ⟨some 78, _, _, _, _, _⟩) (v := ?_) rfl (by kernel_rfl) (by kernel_rfl) (by kernel_rfl) (fun _ _ _ h => h) (Or.inl ⟨by rfl, ?_⟩) (by assumption) ?_
    rotate_left
    · intro w hSw; (try dsimp only at hSw); go_simp; (try with_reducible rfl)
    try simp only [Act.put, List.setIfInBounds_toArray, List.set_cons_zero, List.set_cons_succ]
    refine wpAnyH_ready (rs := [19]) (by kernel_rfl) (by simp) (AllReadyH.cons (o := ⟨some 77, _, _, _, _, _⟩) rfl (fun Kc hKc => ?_) AllReadyH.nil)
    go_simp
    go_at_call 14; refine (iasks t Ab cb _ _ HX.out).mono ?_; rintro e v4 ⟨rfl, b4⟩; have y4 := y3.trans (b4.mono y3.size)
    clear hHeld
    refine hKc.out _ _ ?_ (fun hHeld => ?_)
    · (try dsimp only); exact K _ y4
    clear hKc Kc
    try simp only [Act.put, List.setIfInBounds_toArray, List.set_cons_zero, List.set_cons_succ]
    refine wpAnyH_take (i := 21) (oi := ⟨some 79, _, _, _, _, _⟩) (v := ?_) rfl (by kernel_rfl) (by kernel_rfl) (by kernel_rfl) (fun _ _ _ h => h) (Or.inl ⟨by rfl, ?_⟩) (by assumption) ?_
    rotate_left
    · intro w hSw; (try dsimp only at hSw); go_simp; (try with_reducible rfl)
    try simp only [Act.put, List.setIfInBounds_toArray, List.set_cons_zero, List.set_cons_succ]
    refine wpAnyH_take (i := 22) (oi := ⟨some 80, _, _, _, _, _⟩) (v := ?_) rfl (by kernel_rfl) (by kernel_rfl) (by kernel_rfl) (fun _ _ _ h => h) (Or.inl ⟨by rfl, ?_⟩) (by assumption) ?_
    rotate_left
    · intro w hSw; (try dsimp only at hSw); go_simp; (try with_reducible rfl)
    try simp only [Act.put, List.setIfInBounds_toArray, List.set_cons_zero, List.set_cons_succ]
    refine wpAnyH_take (i := 23) (oi := ⟨some 81, _, _, _, _, _⟩) (v := ?_) rfl (by kernel_rfl) (by kernel_rfl) (by kernel_rfl) (fun _ _ _ h => h) (Or.inl ⟨by rfl, ?_⟩) (by assumption) ?_
    rotate_left
    · intro w hSw; (try dsimp only at hSw); go_simp; (try with_reducible rfl)
    try simp only [Act.put, List.setIfInBounds_toArray, List.set_cons_zero, List.set_cons_succ]
    refine wpAnyH_take (i := 24) (oi := ⟨some 82, _, _, _, _, _⟩) (v := ?_) rfl (by kernel_rfl) (by kernel_rfl) (by kernel_rfl) (fun _ _ _ h => h) (Or.inl ⟨by rfl, ?_⟩) (by assumption) ?_
    rotate_left
    · intro w hSw; (try dsimp only at hSw); go_simp; (try with_reducible rfl)
    try simp only [Act.put, List.setIfInBounds_toArray, List.set_cons_zero, List.set_cons_succ]
    refine wpAnyH_take (i := 26) (oi := ⟨some 84, _, _, _, _, _⟩) (v := ?_) rfl (by kernel_rfl) (by kernel_rfl) (by kernel_rfl) (fun _ _ _ h => h) (Or.inl ⟨by rfl, ?_⟩) (by assumption) ?_
    rotate_left
    · intro w hSw; (try dsimp only at hSw); go_simp; (try with_reducible rfl)
    try simp only [Act.put, List.setIfInBounds_toArray, List.set_cons_zero, List.set_cons_succ]
    refine wpAnyH_ready (rs := [25]) (by kernel_rfl) (by simp) (AllReadyH.cons (o := ⟨some 83, _, _, _, _, _⟩) rfl (fun Kc hKc => ?_) AllReadyH.nil)
    go_simp
    go_at_call 15; refine (ianswers t Ab cb _ y HY.out).mono ?_; rintro e v5 ⟨rfl, b5⟩; have y5 := y4.trans (b5.mono y4.size)
    clear hHeld
    refine hKc.out _ _ ?_ (fun hHeld => ?_)
    · (try dsimp only); exact K _ y5
    clear hKc Kc
    try simp only [Act.put, List.setIfInBounds_toArray, List.set_cons_zero, List.set_cons_succ]
    refine wpAnyH_take (i := 27) (oi := ⟨some 85, _, _, _, _, _⟩) (v := ?_) rfl (by kernel_rfl) (by kernel_rfl) (by kernel_rfl) (fun _ _ _ h => h) (Or.inl ⟨by rfl, ?_⟩) (by assumption) ?_
    rotate_left
    · intro w hSw; (try dsimp only at hSw); go_simp; (try with_reducible rfl)
    try simp only [Act.put, List.setIfInBounds_toArray, List.set_cons_zero, List.set_cons_succ]
    refine wpAnyH_take (i := 28) (oi := ⟨some 86, _, _, _, _, _⟩) (v := ?_) rfl (by kernel_rfl) (by kernel_rfl) (by kernel_rfl) (fun _ _ _ h => h) (Or.inl ⟨by rfl, ?_⟩) (by assumption) ?_
    rotate_left
    · intro w hSw; (try dsimp only at hSw); go_simp; (try with_reducible rfl)
    try simp only [Act.put, List.setIfInBounds_toArray, List.set_cons_zero, List.set_cons_succ]
    refine wpAnyH_take (i := 29) (oi := ⟨some 87, _, _, _, _, _⟩) (v := ?_) rfl (by kernel_rfl) (by kernel_rfl) (by kernel_rfl) (fun _ _ _ h => h) (Or.inl ⟨by rfl, ?_⟩) (by assumption) ?_
    rotate_left
    · intro w hSw; (try dsimp only at hSw); go_simp; (try with_reducible rfl)
    try simp only [Act.put, List.setIfInBounds_toArray, List.set_cons_zero, List.set_cons_succ]
    refine wpAnyH_take (i := 30) (oi := ⟨some 88, _, _, _, _, _⟩) (v := ?_) rfl (by kernel_rfl) (by kernel_rfl) (by kernel_rfl) (fun _ _ _ h => h) (Or.inl ⟨by rfl, ?_⟩) (by assumption) ?_
    rotate_left
    · intro w hSw; (try dsimp only at hSw); go_simp; (try with_reducible rfl)
    try simp only [Act.put, List.setIfInBounds_toArray, List.set_cons_zero, List.set_cons_succ]
    refine wpAnyH_take (i := 32) (oi := ⟨some 90, _, _, _, _, _⟩) (v := ?_) rfl (by kernel_rfl) (by kernel_rfl) (by kernel_rfl) (fun _ _ _ h => h) (Or.inl ⟨by rfl, ?_⟩) (by assumption) ?_
    rotate_left
    · intro w hSw; (try dsimp only at hSw); go_simp; (try with_reducible rfl)
    try simp only [Act.put, List.setIfInBounds_toArray, List.set_cons_zero, List.set_cons_succ]
    refine wpAnyH_take (i := 33) (oi := ⟨some 91, _, _, _, _, _⟩) (v := ?_) rfl (by kernel_rfl) (by kernel_rfl) (by kernel_rfl) (fun _ _ _ h => h) (Or.inl ⟨by rfl, ?_⟩) (by assumption) ?_
    rotate_left
    · intro w hSw; (try dsimp only at hSw); go_simp; (try with_reducible rfl)
    try simp only [Act.put, List.setIfInBounds_toArray, List.set_cons_zero, List.set_cons_succ]
    refine wpAnyH_ready (rs := [31]) (by kernel_rfl) (by simp) (AllReadyH.cons (o := ⟨some 89, _, _, _, _, _⟩) rfl (fun Kc hKc => ?_) AllReadyH.nil)
    go_simp
    go_at_call 16; refine (ierror t Ab cb _ z HZ.out).mono ?_; rintro e v6 ⟨rfl, b6⟩; have y6 := y5.trans (b6.mono y5.size)
    clear hHeld
    refine hKc.out _ _ ?_ (fun hHeld => ?_)
    · (try dsimp only); exact K _ y6
    clear hKc Kc
    try simp only [Act.put, List.setIfInBounds_toArray, List.set_cons_zero, List.set_cons_succ]
    refine wpAnyH_ready (rs := [34]) (by kernel_rfl) (by simp) (AllReadyH.cons (o := ⟨some 92, _, _, _, _, _⟩) rfl (fun Kc hKc => ?_) AllReadyH.nil)
    go_simp
    go_at_call 17; refine (rerrI t.type _ z HZ.out).mono ?_; rintro e v7 ⟨rfl, rfl⟩
    clear hHeld
    refine hKc.out _ _ ?_ (fun hHeld => ?_)
    · (try dsimp only); exact K _ y6
    clear hKc Kc
    try simp only [Act.put, List.setIfInBounds_toArray, List.set_cons_zero, List.set_cons_succ]
    refine wpAnyH_take (i := 35) (oi := ⟨some 93, _, _, _, _, _⟩) (v := ?_) rfl (by kernel_rfl) (by kernel_rfl) (by kernel_rfl) (fun _ _ _ h => h) (Or.inl ⟨by rfl, ?_⟩) (by assumption) ?_
    rotate_left
    · intro w hSw; (try dsimp only at hSw); go_simp; (try with_reducible rfl)
    try simp only [Act.put, List.setIfInBounds_toArray, List.set_cons_zero, List.set_cons_succ]
    refine wpAnyH_take (i := 36) (oi := ⟨some 94, _, _, _, _, _⟩) (v := ?_) rfl (by kernel_rfl) (by kernel_rfl) (by kernel_rfl) (fun _ _ _ h => h) (Or.inl ⟨by rfl, ?_⟩) (by assumption) ?_
    rotate_left
    · intro w hSw; (try dsimp only at hSw); go_simp; (try with_reducible rfl)
    try simp only [Act.put, List.setIfInBounds_toArray, List.set_cons_zero, List.set_cons_succ]
    refine wpAnyH_take (i := 37) (oi := ⟨some 95, _, _, _, _, _⟩) (v := ?_) rfl (by kernel_rfl) (by kernel_rfl) (by kernel_rfl) (fun _ _ _ h => h) (Or.inl ⟨by rfl, ?_⟩) (by assumption) ?_
    rotate_left
    · intro w hSw; (try dsimp only at hSw); go_simp; (try with_reducible rfl)
    try simp only [Act.put, List.setIfInBounds_toArray, List.set_cons_zero, List.set_cons_succ]
    refine wpAnyH_take (i := 38) (oi := ⟨some 96, _, _, _, _, _⟩) (v := ?_) rfl (by kernel_rfl) (by kernel_rfl) (by kernel_rfl) (fun _ _ _ h => h) (Or.inl ⟨by rfl, ?_⟩) (by assumption) ?_
    rotate_left
    · intro w hSw; (try dsimp only at hSw); go_simp; (try with_reducible rfl)
    try simp only [Act.put, List.setIfInBounds_toArray, List.set_cons_zero, List.set_cons_succ]
    refine wpAnyH_take (i := 40) (oi := ⟨some 98, _, _, _, _, _⟩) (v := ?_) rfl (by kernel_rfl) (by kernel_rfl) (by kernel_rfl) (fun _ _ _ h => h) (Or.inl ⟨by rfl, ?_⟩) (by assumption) ?_
    rotate_left
    · intro w hSw; (try dsimp only at hSw); go_simp; (try with_reducible rfl)
    try simp only [Act.put, List.setIfInBounds_toArray, List.set_cons_zero, List.set_cons_succ]
    refine wpAnyH_ready (rs := [39]) (by kernel_rfl) (by simp) (AllReadyH.cons (o := ⟨some 97, _, _, _, _, _⟩) rfl (fun Kc hKc => ?_) AllReadyH.nil)
    go_simp
    go_at_call 18; refine (iname t Ab cb _ nm HN.out br0 br1).mono ?_; rintro e v8 ⟨rfl, b8⟩; have y8 := y6.trans (b8.mono y6.size)
    clear hHeld
    refine hKc.out _ _ ?_ (fun hHeld => ?_)
    · (try dsimp only); exact K _ y8
    clear hKc Kc
    try simp only [Act.put, List.setIfInBounds_toArray, List.set_cons_zero, List.set_cons_succ]
    refine wpAnyH_take (i := 41) (oi := ⟨some 99, _, _, _, _, _⟩) (v := ?_) rfl (by kernel_rfl) (by kernel_rfl) (by kernel_rfl) (fun _ _ _ h => h) (Or.inl ⟨by rfl, ?_⟩) (by assumption) ?_
    rotate_left
    · intro w hSw; (try dsimp only at hSw); go_simp; (try with_reducible rfl)
    try simp only [Act.put, List.setIfInBounds_toArray, List.set_cons_zero, List.set_cons_succ]
    refine wpAnyH_take (i := 42) (oi := ⟨some 100, _, _, _, _, _⟩) (v := ?_) rfl (by kernel_rfl) (by kernel_rfl) (by kernel_rfl) (fun _ _ _ h => h) (Or.inl ⟨by rfl, ?_⟩) (by assumption) ?_
    rotate_left
    · intro w hSw; (try dsimp only at hSw); go_simp; (try with_reducible rfl)
    try simp only [Act.put, List.setIfInBounds_toArray, List.set_cons_zero, List.set_cons_succ]
    refine wpAnyH_take (i := 43) (oi := ⟨some 4, _, _, _, _, _⟩) (v := ?_) rfl (by kernel_rfl) (by kernel_rfl) (by kernel_rfl) (fun _ _ _ h => h) (Or.inl ⟨by rfl, ?_⟩) (by assumption) ?_
    rotate_left
    · intro w hSw; (try dsimp only at hSw); go_simp; (try with_reducible rfl)
    try simp only [Act.put, List.setIfInBounds_toArray, List.set_cons_zero, List.set_cons_succ]
    refine wpAnyH_done (by kernel_rfl) ?_ _
    go_wp2
    go_ret
    refine ⟨ret_bool ?_, (x5.call y8).below⟩
    cases v <;> cases y <;> cases z <;> simp
end Go.Proofs.Ytndhiopfkgdhcaa
