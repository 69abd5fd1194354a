/- Lemmas of layer 7, several texts in one. -/
import Derived.Deep.RegionHeld3
import Derived.Test.YthejakbjekjhjaaQ03
import Derived.Test.YthejakbjekjhjaaQ25
/- A statement of layer 7, walked from what package reasm's functions owe: a pool whose time goes on. -/
namespace Go.Proofs.Ythejakbjekjhjaa
open Go.ChangeShapes Go.WideShapes Go.ChangeAt Go.RowKit
set_option linter.unusedVariables false

/-- the same time later: what Tick answers. -/
structure TickedP (p : Po) (now : Int) (q : Po) (many : Int) : Prop where
  eq : tickP p now = (q, many, 0)
  right : RightP q
  held : heldP q ≤ heldP p
  many : many = (p.list.length : Int) - (q.list.length : Int)
theorem ticked {p : Po} (h : RightP p) {now : Int} (h0 : p.now ≤ now) (h1 : now ≤ 1099511627776) : ∃ q many, TickedP p now q many := by
  obtain ⟨a, b, _, _, _, c, _⟩ := tick_right h h0 h1
  refine ⟨(tickP p now).1, (tickP p now).2.1, by rw [← a], b, c, ?_⟩
  unfold tickP
  split
  · exact absurd (by assumption) (by
      rintro (h' | h' | h')
      · rw [(rightP_iff p).2 h] at h'; cases h'
      · omega
      · omega)
  · rfl
set_option maxRecDepth 100000 in
set_option maxHeartbeats 4000000 in
theorem reasmOld (p : Po) (A : Option Addr) (c : Nat) (n : Int) (w : World) (hP : PoIn w (oldV w) p A c) (hn0 : 0 ≤ n) (hn1 : n ≤ 65535) :
    Calls Try.prog 5 #[poV p A c, .int .u16 n] w fun e w' => e = .returned (.bool true) ∧ Below w.heap.size w w' := by
  have m0 := poIs.made (w := w) (p := p) (A_list := A) (c_list := c)
  have s0 : w.heap.size < (w.alloc (poO p A c)).heap.size := by simp
  have b0 : Below w.heap.size w (w.alloc (poO p A c)) := (Below.refl _ _).alloc (Nat.le_refl _) _
  have HP := Go.Lib.hid (hP.old.at b0)
  clear hP
  go_enter Try.func5, Try.ntmps5
  go_upto_region 1 with fail
  generalize w.alloc (poO p A c) = W at *
  have M0 : Hid (∀ Y, Below W.heap.size W Y → poIs Y w.heap.size p A c) := Go.Lib.hid (fun Y y => m0.keep y s0)
  clear m0
  go_wp2_with fail
  refine (cawake W).mono ?_
  rintro e w1 ⟨rfl, y1⟩
  dsimp only
  obtain ⟨c0, c1, c2, c3⟩ := M0.out _ y1
  go_wp2_with fail
  refine (rshortP p A c (shortP p) rfl w1 _ (HP.out.at y1)).mono ?_
  rintro e w2 ⟨rfl, y2⟩
  dsimp only
  have x2 := y1.trans (y2.mono y1.size)
  clear c0 c1 c2 c3 y2
  obtain ⟨c0, c1, c2, c3⟩ := M0.out _ x2
  by_cases hS : shortP p = true
  · rw [hS]
    go_wp2_with fail
    refine (cright p A c w2 _ (rightP p) rfl (HP.out.at x2) (short_few hS)).mono ?_
    rintro e w3 ⟨rfl, y3⟩
    dsimp only
    have x3 := x2.trans (y3.mono x2.size)
    clear c0 c1 c2 c3 y3 x2
    obtain ⟨c0, c1, c2, c3⟩ := M0.out _ x3
    by_cases hR : rightP p = true
    · by_cases hN : p.now ≤ 1099510000000
      · rw [hR]
        have R := (rightP_iff p).1 hR
        have hF := Go.Lib.hid (right_few R)
        have r0 := R.n0
        have r1 := R.l0
        have r2 := R.l1
        have r3 := R.few
        have r4 := R.fits
        have r5 := R.r1
        obtain ⟨q, many, T1⟩ := ticked R (now := p.now + n) (by omega) (by omega)
        obtain ⟨q2, many2, T2⟩ := ticked R (now := p.now + p.life) (by omega) (by omega)
        have TA := Go.Lib.hid (tick_all R (by omega))
        have HR := Go.Lib.hid R
        have H1 := Go.Lib.hid T1
        have H2 := Go.Lib.hid T2
        clear R T1 T2 hR hS
        go_wp2_with fail
        refine (ctick p A c (p.now + n) w3 _ q many 0 H1.out.eq (HP.out.at x3) HR.out).mono ?_
        rintro e w4 ⟨A1, k1, rfl, hq, y4⟩
        dsimp only
        have x4 := x3.trans (y4.mono x3.size)
        have HQ := Go.Lib.hid hq
        clear c0 c1 c2 c3 y4 x3 hq
        go_upto_region 6 with fail
        have y5 : Below w4.heap.size w4 (w4.alloc (poO q A1 k1)) := (Below.refl _ _).alloc (Nat.le_refl _) _
        have s5 : w4.heap.size < (w4.alloc (poO q A1 k1)).heap.size := by simp
        have x5 := x4.trans (y5.mono x4.size)
        have m5 := poIs.made (w := w4) (p := q) (A_list := A1) (c_list := k1)
        have M5 : Hid (∀ Y, Below (w4.alloc (poO q A1 k1)).heap.size (w4.alloc (poO q A1 k1)) Y → poIs Y w4.heap.size q A1 k1) := Go.Lib.hid (fun Y y => m5.keep y s5)
        have HQ5 := Go.Lib.hid (HQ.out.at y5)
        clear m5 y5 x4 s5 HQ
        generalize w4.alloc (poO q A1 k1) = W5 at *
        generalize w4.heap.size = bq at *
        obtain ⟨c0, c1, c2, c3⟩ := M0.out _ x5
        go_wp2_with fail
        refine (ctick p A c (p.now + p.life) W5 _ q2 many2 0 H2.out.eq (HP.out.at x5) HR.out).mono ?_
        rintro e w6 ⟨A2, k2, rfl, hq2, y6⟩
        dsimp only
        have x6 := x5.trans (y6.mono x5.size)
        have HQ2 := Go.Lib.hid hq2
        have z6 := Go.Lib.hid y6
        clear c0 c1 c2 c3 y6 hq2
        go_upto_region 7 with fail
        have y7 : Below w6.heap.size w6 (w6.alloc (poO q2 A2 k2)) := (Below.refl _ _).alloc (Nat.le_refl _) _
        have s7 : w6.heap.size < (w6.alloc (poO q2 A2 k2)).heap.size := by simp
        have x7 := x6.trans (y7.mono x6.size)
        have z7 := Go.Lib.hid (z6.out.trans (y7.mono z6.out.size))
        have m7 := poIs.made (w := w6) (p := q2) (A_list := A2) (c_list := k2)
        have M7 : Hid (∀ Y, Below (w6.alloc (poO q2 A2 k2)).heap.size (w6.alloc (poO q2 A2 k2)) Y → poIs Y w6.heap.size q2 A2 k2) := Go.Lib.hid (fun Y y => m7.keep y s7)
        have HQ7 := Go.Lib.hid (HQ2.out.at y7)
        have HQ6 := Go.Lib.hid (HQ5.out.at z7.out)
        have HP7 := Go.Lib.hid (HP.out.at x7)
        have M57 := Go.Lib.hid (M5.out)
        clear m7 y7 x6 s7 HQ2 z6 HQ5
        generalize w6.alloc (poO q2 A2 k2) = W7 at *
        generalize w6.heap.size = bq2 at *
        have K : ∀ Y, Below W7.heap.size W7 Y → Y.cell? ⟨w.heap.size, 0, none⟩ = some (.int .i64 p.room) ∧ Y.cell? ⟨w.heap.size, 1, none⟩ = some (.int .i64 p.life) ∧ Y.cell? ⟨w.heap.size, 2, none⟩ = some (.int .i64 p.now) ∧ Y.cell? ⟨w.heap.size, 3, none⟩ = some (.slice A p.list.length c) ∧ Y.cell? ⟨bq, 0, none⟩ = some (.int .i64 q.room) ∧ Y.cell? ⟨bq, 1, none⟩ = some (.int .i64 q.life) ∧ Y.cell? ⟨bq, 2, none⟩ = some (.int .i64 q.now) ∧ Y.cell? ⟨bq, 3, none⟩ = some (.slice A1 q.list.length k1) ∧ Y.cell? ⟨bq2, 0, none⟩ = some (.int .i64 q2.room) ∧ Y.cell? ⟨bq2, 1, none⟩ = some (.int .i64 q2.life) ∧ Y.cell? ⟨bq2, 2, none⟩ = some (.int .i64 q2.now) ∧ Y.cell? ⟨bq2, 3, none⟩ = some (.slice A2 q2.list.length k2) ∧ Below W7.heap.size W7 Y := fun Y y => by
          obtain ⟨c0, c1, c2, c3⟩ := M0.out _ (x7.trans (y.mono x7.size))
          obtain ⟨d0, d1, d2, d3⟩ := M5.out _ (z7.out.trans (y.mono z7.out.size))
          obtain ⟨e0, e1, e2, e3⟩ := M7.out _ y
          exact ⟨c0, c1, c2, c3, d0, d1, d2, d3, e0, e1, e2, e3, y⟩
        have HRQ := Go.Lib.hid H1.out.right
        have HFQ := Go.Lib.hid (right_few H1.out.right)
        have HF2 := Go.Lib.hid (right_few H2.out.right)
        have HE2 : Hid (q2.list = []) := Go.Lib.hid (by have := TA.out; rw [H2.out.eq] at this; exact this)
        have l2 : q2.list.length = 0 := by rw [HE2.out]; rfl
        have h2 : heldP q2 = 0 := by unfold heldP; rw [HE2.out]; rfl
        have l1 := H1.out.right.few
        have n1 := H1.out.many
        have n2 := H2.out.many
        have g1 := H1.out.held
        have t59 : decide (((heldP q : Nat) : Int) ≤ ((heldP p : Nat) : Int)) = true := by simp; omega
        have t59b : (heldP q ≤ heldP p) := g1
        have e69 := IntWalk.i64_in ((p.list.length : Int) - (q.list.length : Int)) (by omega)
        have t70 : (many == (p.list.length : Int) - (q.list.length : Int)) = true := by rw [beq_iff_eq]; omega
        have t80 : ((q2.list.length : Int) == 0) = true := by rw [beq_iff_eq]; omega
        have t87 : (many2 == (p.list.length : Int)) = true := by rw [beq_iff_eq]; omega
        have t92 : (((heldP q2 : Nat) : Int) == 0) = true := by rw [beq_iff_eq]; omega
        have u0 : Below W7.heap.size W7 W7.drew := below_drew (Below.refl _ _)
        clear M0 M5 M57 M7 z7 x5 H1 H2 TA HE2 HR l2 h2 n1 n2 g1
        go_upto_region 7 with fail
        refine wp_region_held_drew (S := (fun Y => Y.cell? ⟨w.heap.size, 0, none⟩ = some (.int .i64 p.room) ∧ Y.cell? ⟨w.heap.size, 1, none⟩ = some (.int .i64 p.life) ∧ Y.cell? ⟨w.heap.size, 2, none⟩ = some (.int .i64 p.now) ∧ Y.cell? ⟨w.heap.size, 3, none⟩ = some (.slice A p.list.length c) ∧ Y.cell? ⟨bq, 0, none⟩ = some (.int .i64 q.room) ∧ Y.cell? ⟨bq, 1, none⟩ = some (.int .i64 q.life) ∧ Y.cell? ⟨bq, 2, none⟩ = some (.int .i64 q.now) ∧ Y.cell? ⟨bq, 3, none⟩ = some (.slice A1 q.list.length k1) ∧ Y.cell? ⟨bq2, 0, none⟩ = some (.int .i64 q2.room) ∧ Y.cell? ⟨bq2, 1, none⟩ = some (.int .i64 q2.life) ∧ Y.cell? ⟨bq2, 2, none⟩ = some (.int .i64 q2.now) ∧ Y.cell? ⟨bq2, 3, none⟩ = some (.slice A2 q2.list.length k2) ∧ Below W7.heap.size W7 Y)) (by kernel_rfl) ?_ (fun hHeld => ?_)
        · exact K _ u0
        refine wpAnyH_take (i := 0) (oi := ⟨some 48, _, _, _, _, _⟩) (v := ?_) rfl (by kernel_rfl) (by kernel_rfl) (by kernel_rfl) (fun _ _ _ h => h) (Or.inl ⟨by rfl, ?_⟩) (by assumption) ?_
        rotate_left
        · intro w hSw; (try dsimp only at hSw); go_simp; (try with_reducible rfl)
        try simp only [Act.put, List.setIfInBounds_toArray, List.set_cons_zero, List.set_cons_succ]
        refine wpAnyH_take (i := 1) (oi := ⟨some 49, _, _, _, _, _⟩) (v := ?_) rfl (by kernel_rfl) (by kernel_rfl) (by kernel_rfl) (fun _ _ _ h => h) (Or.inl ⟨by rfl, ?_⟩) (by assumption) ?_
        rotate_left
        · intro w hSw; (try dsimp only at hSw); go_simp; (try with_reducible rfl)
        try simp only [Act.put, List.setIfInBounds_toArray, List.set_cons_zero, List.set_cons_succ]
        refine wpAnyH_take (i := 2) (oi := ⟨some 50, _, _, _, _, _⟩) (v := ?_) rfl (by kernel_rfl) (by kernel_rfl) (by kernel_rfl) (fun _ _ _ h => h) (Or.inl ⟨by rfl, ?_⟩) (by assumption) ?_
        rotate_left
        · intro w hSw; (try dsimp only at hSw); go_simp; (try with_reducible rfl)
        try simp only [Act.put, List.setIfInBounds_toArray, List.set_cons_zero, List.set_cons_succ]
        refine wpAnyH_take (i := 3) (oi := ⟨some 51, _, _, _, _, _⟩) (v := ?_) rfl (by kernel_rfl) (by kernel_rfl) (by kernel_rfl) (fun _ _ _ h => h) (Or.inl ⟨by rfl, ?_⟩) (by assumption) ?_
        rotate_left
        · intro w hSw; (try dsimp only at hSw); go_simp; (try with_reducible rfl)
        try simp only [Act.put, List.setIfInBounds_toArray, List.set_cons_zero, List.set_cons_succ]
        refine wpAnyH_take (i := 4) (oi := ⟨some 52, _, _, _, _, _⟩) (v := ?_) rfl (by kernel_rfl) (by kernel_rfl) (by kernel_rfl) (fun _ _ _ h => h) (Or.inl ⟨by rfl, ?_⟩) (by assumption) ?_
        rotate_left
        · intro w hSw; (try dsimp only at hSw); go_simp; (try with_reducible rfl)
        try simp only [Act.put, List.setIfInBounds_toArray, List.set_cons_zero, List.set_cons_succ]
        refine wpAnyH_take (i := 5) (oi := ⟨some 53, _, _, _, _, _⟩) (v := ?_) rfl (by kernel_rfl) (by kernel_rfl) (by kernel_rfl) (fun _ _ _ h => h) (Or.inl ⟨by rfl, ?_⟩) (by assumption) ?_
        rotate_left
        · intro w hSw; (try dsimp only at hSw); go_simp; (try with_reducible rfl)
        try simp only [Act.put, List.setIfInBounds_toArray, List.set_cons_zero, List.set_cons_succ]
        refine wpAnyH_take (i := 6) (oi := ⟨some 54, _, _, _, _, _⟩) (v := ?_) rfl (by kernel_rfl) (by kernel_rfl) (by kernel_rfl) (fun _ _ _ h => h) (Or.inl ⟨by rfl, ?_⟩) (by assumption) ?_
        rotate_left
        · intro w hSw; (try dsimp only at hSw); go_simp; (try with_reducible rfl)
        try simp only [Act.put, List.setIfInBounds_toArray, List.set_cons_zero, List.set_cons_succ]
        refine wpAnyH_take (i := 7) (oi := ⟨some 55, _, _, _, _, _⟩) (v := ?_) rfl (by kernel_rfl) (by kernel_rfl) (by kernel_rfl) (fun _ _ _ h => h) (Or.inl ⟨by rfl, ?_⟩) (by assumption) ?_
        rotate_left
        · intro w hSw; (try dsimp only at hSw); go_simp; (try with_reducible rfl)
        try simp only [Act.put, List.setIfInBounds_toArray, List.set_cons_zero, List.set_cons_succ]
        refine wpAnyH_take (i := 9) (oi := ⟨some 57, _, _, _, _, _⟩) (v := ?_) rfl (by kernel_rfl) (by kernel_rfl) (by kernel_rfl) (fun _ _ _ h => h) (Or.inl ⟨by rfl, ?_⟩) (by assumption) ?_
        rotate_left
        · intro w hSw; (try dsimp only at hSw); go_simp; (try with_reducible rfl)
        try simp only [Act.put, List.setIfInBounds_toArray, List.set_cons_zero, List.set_cons_succ]
        refine wpAnyH_ready (rs := [8]) (by kernel_rfl) (by simp) (AllReadyH.cons (o := ⟨some 56, _, _, _, _, _⟩) rfl (fun Kc hKc => ?_) AllReadyH.nil)
        go_simp
        go_at_call 11; refine (cheld q A1 k1 _ _ (HQ6.out.at u0) HFQ.out).mono ?_; rintro e v1 ⟨rfl, a1⟩; have u1 := u0.trans (a1.mono u0.size)
        clear hHeld
        refine hKc.out _ _ ?_ (fun hHeld => ?_)
        · (try dsimp only); exact K _ u1
        clear hKc Kc
        try simp only [Act.put, List.setIfInBounds_toArray, List.set_cons_zero, List.set_cons_succ]
        refine wpAnyH_ready (rs := [10]) (by kernel_rfl) (by simp) (AllReadyH.cons (o := ⟨some 58, _, _, _, _, _⟩) rfl (fun Kc hKc => ?_) AllReadyH.nil)
        go_simp
        go_at_call 11; refine (cheld p A c _ _ (HP7.out.at u1) hF.out).mono ?_; rintro e v2 ⟨rfl, a2⟩; have u2 := u1.trans (a2.mono u1.size)
        clear hHeld
        refine hKc.out _ _ ?_ (fun hHeld => ?_)
        · (try dsimp only); exact K _ u2
        clear hKc Kc
        try simp only [Act.put, List.setIfInBounds_toArray, List.set_cons_zero, List.set_cons_succ]
        refine wpAnyH_take (i := 11) (oi := ⟨some 59, _, _, _, _, _⟩) (v := ?_) rfl (by kernel_rfl) (by kernel_rfl) (by kernel_rfl) (fun _ _ _ h => h) (Or.inl ⟨by rfl, ?_⟩) (by assumption) ?_
        rotate_left
        · intro w hSw; (try dsimp only at hSw); go_simp; (try with_reducible rfl)
        try simp only [Act.put, List.setIfInBounds_toArray, List.set_cons_zero, List.set_cons_succ]
        refine wpAnyH_take (i := 12) (oi := ⟨some 60, _, _, _, _, _⟩) (v := ?_) rfl (by kernel_rfl) (by kernel_rfl) (by kernel_rfl) (fun _ _ _ h => h) (Or.inl ⟨by rfl, ?_⟩) (by assumption) ?_
        rotate_left
        · intro w hSw; (try dsimp only at hSw); go_simp; (try with_reducible rfl)
        try simp only [Act.put, List.setIfInBounds_toArray, List.set_cons_zero, List.set_cons_succ]
        refine wpAnyH_take (i := 13) (oi := ⟨some 61, _, _, _, _, _⟩) (v := ?_) rfl (by kernel_rfl) (by kernel_rfl) (by kernel_rfl) (fun _ _ _ h => h) (Or.inl ⟨by rfl, ?_⟩) (by assumption) ?_
        rotate_left
        · intro w hSw; (try dsimp only at hSw); go_simp; (try with_reducible rfl)
        try simp only [Act.put, List.setIfInBounds_toArray, List.set_cons_zero, List.set_cons_succ]
        refine wpAnyH_take (i := 14) (oi := ⟨some 62, _, _, _, _, _⟩) (v := ?_) rfl (by kernel_rfl) (by kernel_rfl) (by kernel_rfl) (fun _ _ _ h => h) (Or.inl ⟨by rfl, ?_⟩) (by assumption) ?_
        rotate_left
        · intro w hSw; (try dsimp only at hSw); go_simp; (try with_reducible rfl)
        try simp only [Act.put, List.setIfInBounds_toArray, List.set_cons_zero, List.set_cons_succ]
        refine wpAnyH_take (i := 15) (oi := ⟨some 63, _, _, _, _, _⟩) (v := ?_) rfl (by kernel_rfl) (by kernel_rfl) (by kernel_rfl) (fun _ _ _ h => h) (Or.inl ⟨by rfl, ?_⟩) (by assumption) ?_
        rotate_left
        · intro w hSw; (try dsimp only at hSw); go_simp; (try with_reducible rfl)
        try simp only [Act.put, List.setIfInBounds_toArray, List.set_cons_zero, List.set_cons_succ]
        refine wpAnyH_take (i := 16) (oi := ⟨some 64, _, _, _, _, _⟩) (v := ?_) rfl (by kernel_rfl) (by kernel_rfl) (by kernel_rfl) (fun _ _ _ h => h) (Or.inl ⟨by rfl, ?_⟩) (by assumption) ?_
        rotate_left
        · intro w hSw; (try dsimp only at hSw); go_simp; (try with_reducible rfl)
        try simp only [Act.put, List.setIfInBounds_toArray, List.set_cons_zero, List.set_cons_succ]
        refine wpAnyH_take (i := 17) (oi := ⟨some 65, _, _, _, _, _⟩) (v := ?_) rfl (by kernel_rfl) (by kernel_rfl) (by kernel_rfl) (fun _ _ _ h => h) (Or.inl ⟨by rfl, ?_⟩) (by assumption) ?_
        rotate_left
        · intro w hSw; (try dsimp only at hSw); go_simp; (try with_reducible rfl)
        try simp only [Act.put, List.setIfInBounds_toArray, List.set_cons_zero, List.set_cons_succ]
        refine wpAnyH_take (i := 18) (oi := ⟨some 66, _, _, _, _, _⟩) (v := ?_) rfl (by kernel_rfl) (by kernel_rfl) (by kernel_rfl) (fun _ _ _ h => h) (Or.inl ⟨by rfl, ?_⟩) (by assumption) ?_
        rotate_left
        · intro w hSw; (try dsimp only at hSw); go_simp; (try with_reducible rfl)
        try simp only [Act.put, List.setIfInBounds_toArray, List.set_cons_zero, List.set_cons_succ]
        refine wpAnyH_take (i := 19) (oi := ⟨some 67, _, _, _, _, _⟩) (v := ?_) rfl (by kernel_rfl) (by kernel_rfl) (by kernel_rfl) (fun _ _ _ h => h) (Or.inl ⟨by rfl, ?_⟩) (by assumption) ?_
        rotate_left
        · intro w hSw; (try dsimp only at hSw); go_simp; (try with_reducible rfl)
        try simp only [Act.put, List.setIfInBounds_toArray, List.set_cons_zero, List.set_cons_succ]
        refine wpAnyH_take (i := 20) (oi := ⟨some 68, _, _, _, _, _⟩) (v := ?_) rfl (by kernel_rfl) (by kernel_rfl) (by kernel_rfl) (fun _ _ _ h => h) (Or.inl ⟨by rfl, ?_⟩) (by assumption) ?_
        rotate_left
        · intro w hSw; (try dsimp only at hSw); go_simp; (try with_reducible rfl)
        try simp only [Act.put, List.setIfInBounds_toArray, List.set_cons_zero, List.set_cons_succ]
        refine wpAnyH_take (i := 21) (oi := ⟨some 69, _, _, _, _, _⟩) (v := ?_) rfl (by kernel_rfl) (by kernel_rfl) (by kernel_rfl) (fun _ _ _ h => h) (Or.inl ⟨by rfl, ?_⟩) (by assumption) ?_
        rotate_left
        · intro w hSw; (try dsimp only at hSw); go_simp; (try with_reducible rfl)
        try simp only [Act.put, List.setIfInBounds_toArray, List.set_cons_zero, List.set_cons_succ]
        refine wpAnyH_take (i := 22) (oi := ⟨some 70, _, _, _, _, _⟩) (v := ?_) rfl (by kernel_rfl) (by kernel_rfl) (by kernel_rfl) (fun _ _ _ h => h) (Or.inl ⟨by rfl, ?_⟩) (by assumption) ?_
        rotate_left
        · intro w hSw; (try dsimp only at hSw); go_simp; (try with_reducible rfl)
        try simp only [Act.put, List.setIfInBounds_toArray, List.set_cons_zero, List.set_cons_succ]
        refine wpAnyH_take (i := 23) (oi := ⟨some 71, _, _, _, _, _⟩) (v := ?_) rfl (by kernel_rfl) (by kernel_rfl) (by kernel_rfl) (fun _ _ _ h => h) (Or.inl ⟨by rfl, ?_⟩) (by assumption) ?_
        rotate_left
        · intro w hSw; (try dsimp only at hSw); go_simp; (try with_reducible rfl)
        try simp only [Act.put, List.setIfInBounds_toArray, List.set_cons_zero, List.set_cons_succ]
        refine wpAnyH_take (i := 24) (oi := ⟨some 72, _, _, _, _, _⟩) (v := ?_) rfl (by kernel_rfl) (by kernel_rfl) (by kernel_rfl) (fun _ _ _ h => h) (Or.inl ⟨by rfl, ?_⟩) (by assumption) ?_
        rotate_left
        · intro w hSw; (try dsimp only at hSw); go_simp; (try with_reducible rfl)
        try simp only [Act.put, List.setIfInBounds_toArray, List.set_cons_zero, List.set_cons_succ]
        refine wpAnyH_take (i := 25) (oi := ⟨some 73, _, _, _, _, _⟩) (v := ?_) rfl (by kernel_rfl) (by kernel_rfl) (by kernel_rfl) (fun _ _ _ h => h) (Or.inl ⟨by rfl, ?_⟩) (by assumption) ?_
        rotate_left
        · intro w hSw; (try dsimp only at hSw); go_simp; (try with_reducible rfl)
        try simp only [Act.put, List.setIfInBounds_toArray, List.set_cons_zero, List.set_cons_succ]
        refine wpAnyH_ready (rs := [26]) (by kernel_rfl) (by simp) (AllReadyH.cons (o := ⟨some 74, _, _, _, _, _⟩) rfl (fun Kc hKc => ?_) AllReadyH.nil)
        go_simp
        go_at_call 10; refine (cright q A1 k1 _ _ true ((rightP_iff q).2 HRQ.out) (HQ6.out.at u2) HFQ.out).mono ?_; rintro e v3 ⟨rfl, a3⟩; have u3 := u2.trans (a3.mono u2.size)
        clear hHeld
        refine hKc.out _ _ ?_ (fun hHeld => ?_)
        · (try dsimp only); exact K _ u3
        clear hKc Kc
        try simp only [Act.put, List.setIfInBounds_toArray, List.set_cons_zero, List.set_cons_succ]
        refine wpAnyH_take (i := 27) (oi := ⟨some 75, _, _, _, _, _⟩) (v := ?_) rfl (by kernel_rfl) (by kernel_rfl) (by kernel_rfl) (fun _ _ _ h => h) (Or.inl ⟨by rfl, ?_⟩) (by assumption) ?_
        rotate_left
        · intro w hSw; (try dsimp only at hSw); go_simp; (try with_reducible rfl)
        try simp only [Act.put, List.setIfInBounds_toArray, List.set_cons_zero, List.set_cons_succ]
        refine wpAnyH_take (i := 28) (oi := ⟨some 76, _, _, _, _, _⟩) (v := ?_) rfl (by kernel_rfl) (by kernel_rfl) (by kernel_rfl) (fun _ _ _ h => h) (Or.inl ⟨by rfl, ?_⟩) (by assumption) ?_
        rotate_left
        · intro w hSw; (try dsimp only at hSw); go_simp; (try with_reducible rfl)
        try simp only [Act.put, List.setIfInBounds_toArray, List.set_cons_zero, List.set_cons_succ]
        refine wpAnyH_take (i := 29) (oi := ⟨some 77, _, _, _, _, _⟩) (v := ?_) rfl (by kernel_rfl) (by kernel_rfl) (by kernel_rfl) (fun _ _ _ h => h) (Or.inl ⟨by rfl, ?_⟩) (by assumption) ?_
        rotate_left
        · intro w hSw; (try dsimp only at hSw); go_simp; (try with_reducible rfl)
        try simp only [Act.put, List.setIfInBounds_toArray, List.set_cons_zero, List.set_cons_succ]
        refine wpAnyH_take (i := 30) (oi := ⟨some 78, _, _, _, _, _⟩) (v := ?_) rfl (by kernel_rfl) (by kernel_rfl) (by kernel_rfl) (fun _ _ _ h => h) (Or.inl ⟨by rfl, ?_⟩) (by assumption) ?_
        rotate_left
        · intro w hSw; (try dsimp only at hSw); go_simp; (try with_reducible rfl)
        try simp only [Act.put, List.setIfInBounds_toArray, List.set_cons_zero, List.set_cons_succ]
        refine wpAnyH_take (i := 31) (oi := ⟨some 79, _, _, _, _, _⟩) (v := ?_) rfl (by kernel_rfl) (by kernel_rfl) (by kernel_rfl) (fun _ _ _ h => h) (Or.inl ⟨by rfl, ?_⟩) (by assumption) ?_
        rotate_left
        · intro w hSw; (try dsimp only at hSw); go_simp; (try with_reducible rfl)
        try simp only [Act.put, List.setIfInBounds_toArray, List.set_cons_zero, List.set_cons_succ]
        refine wpAnyH_take (i := 32) (oi := ⟨some 80, _, _, _, _, _⟩) (v := ?_) rfl (by kernel_rfl) (by kernel_rfl) (by kernel_rfl) (fun _ _ _ h => h) (Or.inl ⟨by rfl, ?_⟩) (by assumption) ?_
        rotate_left
        · intro w hSw; (try dsimp only at hSw); go_simp; (try with_reducible rfl)
        try simp only [Act.put, List.setIfInBounds_toArray, List.set_cons_zero, List.set_cons_succ]
        refine wpAnyH_take (i := 33) (oi := ⟨some 81, _, _, _, _, _⟩) (v := ?_) rfl (by kernel_rfl) (by kernel_rfl) (by kernel_rfl) (fun _ _ _ h => h) (Or.inl ⟨by rfl, ?_⟩) (by assumption) ?_
        rotate_left
        · intro w hSw; (try dsimp only at hSw); go_simp; (try with_reducible rfl)
        try simp only [Act.put, List.setIfInBounds_toArray, List.set_cons_zero, List.set_cons_succ]
        refine wpAnyH_take (i := 34) (oi := ⟨some 82, _, _, _, _, _⟩) (v := ?_) rfl (by kernel_rfl) (by kernel_rfl) (by kernel_rfl) (fun _ _ _ h => h) (Or.inl ⟨by rfl, ?_⟩) (by assumption) ?_
        rotate_left
        · intro w hSw; (try dsimp only at hSw); go_simp; (try with_reducible rfl)
        try simp only [Act.put, List.setIfInBounds_toArray, List.set_cons_zero, List.set_cons_succ]
        refine wpAnyH_take (i := 35) (oi := ⟨some 83, _, _, _, _, _⟩) (v := ?_) rfl (by kernel_rfl) (by kernel_rfl) (by kernel_rfl) (fun _ _ _ h => h) (Or.inl ⟨by rfl, ?_⟩) (by assumption) ?_
        rotate_left
        · intro w hSw; (try dsimp only at hSw); go_simp; (try with_reducible rfl)
        try simp only [Act.put, List.setIfInBounds_toArray, List.set_cons_zero, List.set_cons_succ]
        refine wpAnyH_take (i := 36) (oi := ⟨some 84, _, _, _, _, _⟩) (v := ?_) rfl (by kernel_rfl) (by kernel_rfl) (by kernel_rfl) (fun _ _ _ h => h) (Or.inl ⟨by rfl, ?_⟩) (by assumption) ?_
        rotate_left
        · intro w hSw; (try dsimp only at hSw); go_simp; (try with_reducible rfl)
        try simp only [Act.put, List.setIfInBounds_toArray, List.set_cons_zero, List.set_cons_succ]
        refine wpAnyH_take (i := 37) (oi := ⟨some 85, _, _, _, _, _⟩) (v := ?_) rfl (by kernel_rfl) (by kernel_rfl) (by kernel_rfl) (fun _ _ _ h => h) (Or.inl ⟨by rfl, ?_⟩) (by assumption) ?_
        rotate_left
        · intro w hSw; (try dsimp only at hSw); go_simp; (try with_reducible rfl)
        try simp only [Act.put, List.setIfInBounds_toArray, List.set_cons_zero, List.set_cons_succ]
        refine wpAnyH_take (i := 38) (oi := ⟨some 86, _, _, _, _, _⟩) (v := ?_) rfl (by kernel_rfl) (by kernel_rfl) (by kernel_rfl) (fun _ _ _ h => h) (Or.inl ⟨by rfl, ?_⟩) (by assumption) ?_
        rotate_left
        · intro w hSw; (try dsimp only at hSw); go_simp; (try with_reducible rfl)
        try simp only [Act.put, List.setIfInBounds_toArray, List.set_cons_zero, List.set_cons_succ]
        refine wpAnyH_take (i := 39) (oi := ⟨some 87, _, _, _, _, _⟩) (v := ?_) rfl (by kernel_rfl) (by kernel_rfl) (by kernel_rfl) (fun _ _ _ h => h) (Or.inl ⟨by rfl, ?_⟩) (by assumption) ?_
        rotate_left
        · intro w hSw; (try dsimp only at hSw); go_simp; (try with_reducible rfl)
        try simp only [Act.put, List.setIfInBounds_toArray, List.set_cons_zero, List.set_cons_succ]
        refine wpAnyH_take (i := 40) (oi := ⟨some 88, _, _, _, _, _⟩) (v := ?_) rfl (by kernel_rfl) (by kernel_rfl) (by kernel_rfl) (fun _ _ _ h => h) (Or.inl ⟨by rfl, ?_⟩) (by assumption) ?_
        rotate_left
        · intro w hSw; (try dsimp only at hSw); go_simp; (try with_reducible rfl)
        try simp only [Act.put, List.setIfInBounds_toArray, List.set_cons_zero, List.set_cons_succ]
        refine wpAnyH_take (i := 41) (oi := ⟨some 89, _, _, _, _, _⟩) (v := ?_) rfl (by kernel_rfl) (by kernel_rfl) (by kernel_rfl) (fun _ _ _ h => h) (Or.inl ⟨by rfl, ?_⟩) (by assumption) ?_
        rotate_left
        · intro w hSw; (try dsimp only at hSw); go_simp; (try with_reducible rfl)
        try simp only [Act.put, List.setIfInBounds_toArray, List.set_cons_zero, List.set_cons_succ]
        refine wpAnyH_take (i := 42) (oi := ⟨some 90, _, _, _, _, _⟩) (v := ?_) rfl (by kernel_rfl) (by kernel_rfl) (by kernel_rfl) (fun _ _ _ h => h) (Or.inl ⟨by rfl, ?_⟩) (by assumption) ?_
        rotate_left
        · intro w hSw; (try dsimp only at hSw); go_simp; (try with_reducible rfl)
        try simp only [Act.put, List.setIfInBounds_toArray, List.set_cons_zero, List.set_cons_succ]
        refine wpAnyH_ready (rs := [43]) (by kernel_rfl) (by simp) (AllReadyH.cons (o := ⟨some 91, _, _, _, _, _⟩) rfl (fun Kc hKc => ?_) AllReadyH.nil)
        go_simp
        go_at_call 11; refine (cheld q2 A2 k2 _ _ (HQ7.out.at u3) HF2.out).mono ?_; rintro e v4 ⟨rfl, a4⟩; have u4 := u3.trans (a4.mono u3.size)
        clear hHeld
        refine hKc.out _ _ ?_ (fun hHeld => ?_)
        · (try dsimp only); exact K _ u4
        clear hKc Kc
        try simp only [Act.put, List.setIfInBounds_toArray, List.set_cons_zero, List.set_cons_succ]
        refine wpAnyH_take (i := 44) (oi := ⟨some 92, _, _, _, _, _⟩) (v := ?_) rfl (by kernel_rfl) (by kernel_rfl) (by kernel_rfl) (fun _ _ _ h => h) (Or.inl ⟨by rfl, ?_⟩) (by assumption) ?_
        rotate_left
        · intro w hSw; (try dsimp only at hSw); go_simp; (try with_reducible rfl)
        try simp only [Act.put, List.setIfInBounds_toArray, List.set_cons_zero, List.set_cons_succ]
        refine wpAnyH_take (i := 45) (oi := ⟨some 93, _, _, _, _, _⟩) (v := ?_) rfl (by kernel_rfl) (by kernel_rfl) (by kernel_rfl) (fun _ _ _ h => h) (Or.inl ⟨by rfl, ?_⟩) (by assumption) ?_
        rotate_left
        · intro w hSw; (try dsimp only at hSw); go_simp; (try with_reducible rfl)
        try simp only [Act.put, List.setIfInBounds_toArray, List.set_cons_zero, List.set_cons_succ]
        refine wpAnyH_take (i := 46) (oi := ⟨some 4, _, _, _, _, _⟩) (v := ?_) rfl (by kernel_rfl) (by kernel_rfl) (by kernel_rfl) (fun _ _ _ h => h) (Or.inl ⟨by rfl, ?_⟩) (by assumption) ?_
        rotate_left
        · intro w hSw; (try dsimp only at hSw); go_simp; (try with_reducible rfl)
        try simp only [Act.put, List.setIfInBounds_toArray, List.set_cons_zero, List.set_cons_succ]
        refine wpAnyH_done (by kernel_rfl) ?_ _
        go_wp2
        go_ret
        exact ⟨rfl, b0.trans ((x7.trans (u4.mono x7.size)).mono b0.size)⟩
      · rw [hR]
        go_wp2
        go_ret
        exact ⟨rfl, b0.trans (x3.mono b0.size)⟩
    · rw [Bool.eq_false_iff.2 hR]
      go_wp2
      go_ret
      exact ⟨rfl, b0.trans (x3.mono b0.size)⟩
  · rw [Bool.eq_false_iff.2 hS]
    go_wp2
    go_ret
    exact ⟨rfl, b0.trans (x2.mono b0.size)⟩
end Go.Proofs.Ythejakbjekjhjaa
