/- Statements of layer 5, walked: any datagram is put as the document says. -/
import Derived.Deep.RegionHeld3
import Derived.Test.YthikllbfkagdnaaUdpL4
namespace Go.Proofs.Ythikllbfkagdnaa
open Go.ChangeShapes Go.WideShapes Go.ChangeAt Go.RowKit
set_option linter.unusedVariables false
set_option linter.unusedSimpArgs false

/-- two boxed datagrams. -/
structure By (t : Ud) (Ab : Option Addr) (cb : Nat) (u : Ud) (Ab' : Option Addr) (cb' : Nat) (w w' : World) : Prop where
  b : Below (w.heap.size + 2) ((w.alloc (udO t Ab cb)).alloc (udO u Ab' cb')) w'
section
variable {t u : Ud} {Ab : Option Addr} {cb : Nat} {Ab' : Option Addr} {cb' : Nat} {w w' w'' : World}
theorem By.start : By t Ab cb u Ab' cb' w ((w.alloc (udO t Ab cb)).alloc (udO u Ab' cb')) := ⟨Below.refl _ _⟩
theorem By.size (h : By t Ab cb u Ab' cb' w w') : w.heap.size + 2 ≤ w'.heap.size := by have := h.b.size; simpa using this
theorem By.call (h : By t Ab cb u Ab' cb' w w') (hb : Below w'.heap.size w' w'') : By t Ab cb u Ab' cb' w w'' := ⟨h.b.trans (hb.mono h.size)⟩
theorem By.below (h : By t Ab cb u Ab' cb' w w') : Below w.heap.size w w' := (((Below.refl _ _).alloc (Nat.le_refl _) _).alloc (by simp) _).trans (h.b.mono (by omega))
theorem By.cells (h : By t Ab cb u Ab' cb' w w') : w'.cell? ⟨w.heap.size, 0, none⟩ = some (.int .i64 t.sport) ∧ w'.cell? ⟨w.heap.size, 1, none⟩ = some (.int .i64 t.dport) ∧ w'.cell? ⟨w.heap.size, 2, none⟩ = some (.bool t.nosum) ∧ w'.cell? ⟨w.heap.size, 3, none⟩ = some (.slice Ab t.body.length cb) ∧ w'.cell? ⟨w.heap.size + 1, 0, none⟩ = some (.int .i64 u.sport) ∧ w'.cell? ⟨w.heap.size + 1, 1, none⟩ = some (.int .i64 u.dport) ∧ w'.cell? ⟨w.heap.size + 1, 2, none⟩ = some (.bool u.nosum) ∧ w'.cell? ⟨w.heap.size + 1, 3, none⟩ = some (.slice Ab' u.body.length cb') := by
  have s1 : w.heap.size < (w.alloc (udO t Ab cb)).heap.size := by simp
  have m1 : udIs ((w.alloc (udO t Ab cb)).alloc (udO u Ab' cb')) w.heap.size t Ab cb := udIs.call udIs.made ((Below.refl _ _).alloc (Nat.le_refl _) _) s1
  have m2 : udIs ((w.alloc (udO t Ab cb)).alloc (udO u Ab' cb')) (w.heap.size + 1) u Ab' cb' := by
    have := udIs.made (w := w.alloc (udO t Ab cb)) (u := u) (A_body := Ab') (c_body := cb')
    simpa using this
  obtain ⟨c0, c1, c2, c3⟩ := (m1.keep h.b (by omega)).cells
  obtain ⟨d0, d1, d2, d3⟩ := (m2.keep h.b (by omega)).cells
  exact ⟨c0, c1, c2, c3, d0, d1, d2, d3⟩
end
theorem usameU_v (u : Ud) (Ab : Option Addr) (cb : Nat) (v : Ud) (Ab' : Option Addr) (cb' : Nat) (B : Nat) (w : World) (hB : B ≤ w.heap.size) (hI : Bs w B Ab u.body) (hJ : Bs w B Ab' v.body) (x : Bool) (hx : sameU u v = x) :
    Calls Try.prog 12 #[udV u Ab cb, udV v Ab' cb'] w fun e w' => e = .returned (.bool x) ∧ Below w.heap.size w w' := hx ▸ usameU u Ab cb v Ab' cb' B w hB hI hJ
theorem rsameU_v (u : Ud) (Ab : Option Addr) (cb : Nat) (v : Ud) (Ab' : Option Addr) (cb' : Nat) (B : Nat) (w : World) (hB : B ≤ w.heap.size) (hI : Bs w B Ab u.body) (hJ : Bs w B Ab' v.body) (l1 : u.body.length ≤ 16777216) (l2 : v.body.length ≤ 16777216) (x : Bool) (hx : sameU u v = x) :
    Calls Try.prog 13 #[udV u Ab cb, udV v Ab' cb'] w fun e w' => e = .returned (.bool x) ∧ Below w.heap.size w w' := hx ▸ rsameU u Ab cb v Ab' cb' B w hB hI hJ l1 l2
set_option maxRecDepth 100000 in
set_option maxHeartbeats 16000000 in
theorem putsU (src dst : Int) (t : Ud) (Ab : Option Addr) (cb : Nat) (u : Ud) (Ab' : Option Addr) (cb' : Nat) (hs : 0 ≤ src ∧ src ≤ 4294967295) (hd : 0 ≤ dst ∧ dst ≤ 4294967295) (w : World) (h : UdIn w w.heap.size t Ab cb) (h' : UdIn w w.heap.size u Ab' cb') :
    Calls Try.prog 3 #[.int .u32 src, .int .u32 dst, udV t Ab cb, udV u Ab' cb'] w fun e w' => e = .returned (.bool true) ∧ Below w.heap.size w w' := by
  have HI := Go.Lib.hid h
  have HJ := Go.Lib.hid h'
  have bl := h.blen
  have bc := h.bcap
  have bl' := h'.blen
  have bc' := h'.bcap
  obtain ⟨L, n, r, hL⟩ := putUL src dst t
  have HL := Go.Lib.hid hL
  have HLL := Go.Lib.hid hL.len
  have hn65 := hL.small
  clear h h' hL
  go_enter Try.func3, Try.ntmps3
  go_wp2_with fail
  refine (awakeU _).mono ?_
  rintro e w1 ⟨rfl, hb1⟩
  dsimp only
  have x1 := (By.start (t := t) (Ab := Ab) (cb := cb) (u := u) (Ab' := Ab') (cb' := cb') (w := w)).call hb1
  clear hb1
  obtain ⟨c0, c1, c2, c3, d0, d1, d2, d3⟩ := x1.cells
  by_cases h3 : (3000 : Int) < (t.body.length : Int)
  · go_wp2
    go_ret
    exact ⟨rfl, x1.below⟩
  by_cases h4 : (3000 : Int) < (u.body.length : Int)
  · go_wp2
    go_ret
    exact ⟨rfl, x1.below⟩
  go_wp2_with fail
  refine (uputU src dst t Ab cb L n r HL.out _ hs hd (HI.out.at x1.below) (by omega)).mono ?_
  rintro e w4 ⟨A1, k1, rfl, hB4, hb4⟩
  dsimp only
  have x4 := x1.call hb4
  have HB4' := Go.Lib.hid hB4
  clear hb4 hB4 x1 c0 c1 c2 c3 d0 d1 d2 d3
  obtain ⟨c0, c1, c2, c3, d0, d1, d2, d3⟩ := x4.cells
  go_wp2_with fail
  refine (rputU src dst t Ab cb L n r HL.out _ hs hd (HI.out.at x4.below)).mono ?_
  rintro e w5 ⟨A2, k2, rfl, hB5, hb5⟩
  dsimp only
  have x5 := x4.call hb5
  have HB4 := Go.Lib.hid ((HB4'.out.below hb5).more hb5.size)
  have HB5 := Go.Lib.hid hB5
  clear hb5 hB5 x4 HB4' c0 c1 c2 c3 d0 d1 d2 d3
  obtain ⟨v, hv⟩ : ∃ v, sameU t u = v := ⟨_, rfl⟩
  have HV := Go.Lib.hid hv
  clear hv
  have K : ∀ Y, Below w5.heap.size w5 Y → Y.cell? ⟨w.heap.size, 0, none⟩ = some (.int .i64 t.sport) ∧ Y.cell? ⟨w.heap.size, 1, none⟩ = some (.int .i64 t.dport) ∧ Y.cell? ⟨w.heap.size, 2, none⟩ = some (.bool t.nosum) ∧ Y.cell? ⟨w.heap.size, 3, none⟩ = some (.slice Ab t.body.length cb) ∧ Y.cell? ⟨w.heap.size + 1, 0, none⟩ = some (.int .i64 u.sport) ∧ Y.cell? ⟨w.heap.size + 1, 1, none⟩ = some (.int .i64 u.dport) ∧ Y.cell? ⟨w.heap.size + 1, 2, none⟩ = some (.bool u.nosum) ∧ Y.cell? ⟨w.heap.size + 1, 3, none⟩ = some (.slice Ab' u.body.length cb') ∧ Below w5.heap.size w5 Y := fun Y y => by
    obtain ⟨c0, c1, c2, c3, d0, d1, d2, d3⟩ := (x5.call y).cells
    exact ⟨c0, c1, c2, c3, d0, d1, d2, d3, y⟩
  go_upto_region 7 with fail
  refine wp_region_held_drew (S := (fun Y => Y.cell? ⟨w.heap.size, 0, none⟩ = some (.int .i64 t.sport) ∧ Y.cell? ⟨w.heap.size, 1, none⟩ = some (.int .i64 t.dport) ∧ Y.cell? ⟨w.heap.size, 2, none⟩ = some (.bool t.nosum) ∧ Y.cell? ⟨w.heap.size, 3, none⟩ = some (.slice Ab t.body.length cb) ∧ Y.cell? ⟨w.heap.size + 1, 0, none⟩ = some (.int .i64 u.sport) ∧ Y.cell? ⟨w.heap.size + 1, 1, none⟩ = some (.int .i64 u.dport) ∧ Y.cell? ⟨w.heap.size + 1, 2, none⟩ = some (.bool u.nosum) ∧ Y.cell? ⟨w.heap.size + 1, 3, none⟩ = some (.slice Ab' u.body.length cb') ∧ Below w5.heap.size w5 Y)) (by kernel_rfl) ?_ (fun hHeld => ?_)
  · exact K _ (below_drew (Below.refl _ _))
  refine wpAnyH_take (i := 0) (oi := ⟨some 39, _, _, _, _, _⟩) (v := ?_) rfl (by kernel_rfl) (by kernel_rfl) (by kernel_rfl) (fun _ _ _ h => h) (Or.inl ⟨by rfl, ?_⟩) (by assumption) ?_
  rotate_left
  · intro w hSw; (try dsimp only at hSw); go_simp; (try with_reducible rfl)
  try simp only [Act.put, List.setIfInBounds_toArray, List.set_cons_zero, List.set_cons_succ]
  refine wpAnyH_take (i := 1) (oi := ⟨some 40, _, _, _, _, _⟩) (v := ?_) rfl (by kernel_rfl) (by kernel_rfl) (by kernel_rfl) (fun _ _ _ h => h) (Or.inl ⟨by rfl, ?_⟩) (by assumption) ?_
  rotate_left
  · intro w hSw; (try dsimp only at hSw); go_simp; (try with_reducible rfl)
  try simp only [Act.put, List.setIfInBounds_toArray, List.set_cons_zero, List.set_cons_succ]
  refine wpAnyH_take (i := 2) (oi := ⟨some 41, _, _, _, _, _⟩) (v := ?_) rfl (by kernel_rfl) (by kernel_rfl) (by kernel_rfl) (fun _ _ _ h => h) (Or.inl ⟨by rfl, ?_⟩) (by assumption) ?_
  rotate_left
  · intro w hSw; (try dsimp only at hSw); go_simp; (try with_reducible rfl)
  try simp only [Act.put, List.setIfInBounds_toArray, List.set_cons_zero, List.set_cons_succ]
  refine wpAnyH_take (i := 3) (oi := ⟨some 42, _, _, _, _, _⟩) (v := ?_) rfl (by kernel_rfl) (by kernel_rfl) (by kernel_rfl) (fun _ _ _ h => h) (Or.inl ⟨by rfl, ?_⟩) (by assumption) ?_
  rotate_left
  · intro w hSw; (try dsimp only at hSw); go_simp; (try with_reducible rfl)
  try simp only [Act.put, List.setIfInBounds_toArray, List.set_cons_zero, List.set_cons_succ]
  refine wpAnyH_take (i := 4) (oi := ⟨some 43, _, _, _, _, _⟩) (v := ?_) rfl (by kernel_rfl) (by kernel_rfl) (by kernel_rfl) (fun _ _ _ h => h) (Or.inl ⟨by rfl, ?_⟩) (by assumption) ?_
  rotate_left
  · intro w hSw; (try dsimp only at hSw); go_simp; (try with_reducible rfl)
  try simp only [Act.put, List.setIfInBounds_toArray, List.set_cons_zero, List.set_cons_succ]
  refine wpAnyH_take (i := 5) (oi := ⟨some 44, _, _, _, _, _⟩) (v := ?_) rfl (by kernel_rfl) (by kernel_rfl) (by kernel_rfl) (fun _ _ _ h => h) (Or.inl ⟨by rfl, ?_⟩) (by assumption) ?_
  rotate_left
  · intro w hSw; (try dsimp only at hSw); go_simp; (try with_reducible rfl)
  try simp only [Act.put, List.setIfInBounds_toArray, List.set_cons_zero, List.set_cons_succ]
  refine wpAnyH_ready (rs := [6]) (by kernel_rfl) (by simp) (AllReadyH.cons (o := ⟨some 45, _, _, _, _, _⟩) rfl (fun Kc hKc => ?_) AllReadyH.nil)
  go_simp
  go_at_call 11; refine (usame_y A1 n k1 L A2 n k2 L w5.heap.size w5.heap.size w5 _ true (by simp) HLL.out HLL.out HB4.out (Nat.le_refl _) HB5.out (Nat.le_refl _) (by omega) (by omega) (below_drew (Below.refl _ _))).mono ?_; rintro e v1 ⟨rfl, y1⟩
  clear hHeld
  refine hKc.out _ _ ?_ (fun hHeld => ?_)
  · (try dsimp only); exact K _ y1
  clear hKc Kc
  try simp only [Act.put, List.setIfInBounds_toArray, List.set_cons_zero, List.set_cons_succ]
  refine wpAnyH_take (i := 7) (oi := ⟨some 46, _, _, _, _, _⟩) (v := ?_) rfl (by kernel_rfl) (by kernel_rfl) (by kernel_rfl) (fun _ _ _ h => h) (Or.inl ⟨by rfl, ?_⟩) (by assumption) ?_
  rotate_left
  · intro w hSw; (try dsimp only at hSw); go_simp; (try with_reducible rfl)
  try simp only [Act.put, List.setIfInBounds_toArray, List.set_cons_zero, List.set_cons_succ]
  refine wpAnyH_take (i := 8) (oi := ⟨some 47, _, _, _, _, _⟩) (v := ?_) rfl (by kernel_rfl) (by kernel_rfl) (by kernel_rfl) (fun _ _ _ h => h) (Or.inl ⟨by rfl, ?_⟩) (by assumption) ?_
  rotate_left
  · intro w hSw; (try dsimp only at hSw); go_simp; (try with_reducible rfl)
  try simp only [Act.put, List.setIfInBounds_toArray, List.set_cons_zero, List.set_cons_succ]
  refine wpAnyH_take (i := 9) (oi := ⟨some 48, _, _, _, _, _⟩) (v := ?_) rfl (by kernel_rfl) (by kernel_rfl) (by kernel_rfl) (fun _ _ _ h => h) (Or.inl ⟨by rfl, ?_⟩) (by assumption) ?_
  rotate_left
  · intro w hSw; (try dsimp only at hSw); go_simp; (try with_reducible rfl)
  try simp only [Act.put, List.setIfInBounds_toArray, List.set_cons_zero, List.set_cons_succ]
  refine wpAnyH_take (i := 10) (oi := ⟨some 49, _, _, _, _, _⟩) (v := ?_) rfl (by kernel_rfl) (by kernel_rfl) (by kernel_rfl) (fun _ _ _ h => h) (Or.inl ⟨by rfl, ?_⟩) (by assumption) ?_
  rotate_left
  · intro w hSw; (try dsimp only at hSw); go_simp; (try with_reducible rfl)
  try simp only [Act.put, List.setIfInBounds_toArray, List.set_cons_zero, List.set_cons_succ]
  refine wpAnyH_take (i := 12) (oi := ⟨some 51, _, _, _, _, _⟩) (v := ?_) rfl (by kernel_rfl) (by kernel_rfl) (by kernel_rfl) (fun _ _ _ h => h) (Or.inl ⟨by rfl, ?_⟩) (by assumption) ?_
  rotate_left
  · intro w hSw; (try dsimp only at hSw); go_simp; (try with_reducible rfl)
  try simp only [Act.put, List.setIfInBounds_toArray, List.set_cons_zero, List.set_cons_succ]
  refine wpAnyH_take (i := 13) (oi := ⟨some 52, _, _, _, _, _⟩) (v := ?_) rfl (by kernel_rfl) (by kernel_rfl) (by kernel_rfl) (fun _ _ _ h => h) (Or.inl ⟨by rfl, ?_⟩) (by assumption) ?_
  rotate_left
  · intro w hSw; (try dsimp only at hSw); go_simp; (try with_reducible rfl)
  try simp only [Act.put, List.setIfInBounds_toArray, List.set_cons_zero, List.set_cons_succ]
  refine wpAnyH_ready (rs := [11]) (by kernel_rfl) (by simp) (AllReadyH.cons (o := ⟨some 50, _, _, _, _, _⟩) rfl (fun Kc hKc => ?_) AllReadyH.nil)
  go_simp
  go_at_call 12; refine (usameU_v t Ab cb u Ab' cb' w.heap.size _ (x5.call y1).below.size (HI.out.bs.below (x5.call y1).below) (HJ.out.bs.below (x5.call y1).below) v HV.out).mono ?_; rintro e v2 ⟨rfl, b2⟩; have y2 := y1.trans (b2.mono y1.size)
  clear hHeld
  refine hKc.out _ _ ?_ (fun hHeld => ?_)
  · (try dsimp only); exact K _ y2
  clear hKc Kc
  try simp only [Act.put, List.setIfInBounds_toArray, List.set_cons_zero, List.set_cons_succ]
  refine wpAnyH_ready (rs := [14]) (by kernel_rfl) (by simp) (AllReadyH.cons (o := ⟨some 53, _, _, _, _, _⟩) rfl (fun Kc hKc => ?_) AllReadyH.nil)
  go_simp
  go_at_call 13; refine (rsameU_v t Ab cb u Ab' cb' w.heap.size _ (x5.call y2).below.size (HI.out.bs.below (x5.call y2).below) (HJ.out.bs.below (x5.call y2).below) (by omega) (by omega) v HV.out).mono ?_; rintro e v3 ⟨rfl, b3⟩; have y3 := y2.trans (b3.mono y2.size)
  clear hHeld
  refine hKc.out _ _ ?_ (fun hHeld => ?_)
  · (try dsimp only); exact K _ y3
  clear hKc Kc
  try simp only [Act.put, List.setIfInBounds_toArray, List.set_cons_zero, List.set_cons_succ]
  refine wpAnyH_take (i := 15) (oi := ⟨some 54, _, _, _, _, _⟩) (v := ?_) rfl (by kernel_rfl) (by kernel_rfl) (by kernel_rfl) (fun _ _ _ h => h) (Or.inl ⟨by rfl, ?_⟩) (by assumption) ?_
  rotate_left
  · intro w hSw; (try dsimp only at hSw); go_simp; (try with_reducible rfl)
  try simp only [Act.put, List.setIfInBounds_toArray, List.set_cons_zero, List.set_cons_succ]
  refine wpAnyH_take (i := 16) (oi := ⟨some 55, _, _, _, _, _⟩) (v := ?_) rfl (by kernel_rfl) (by kernel_rfl) (by kernel_rfl) (fun _ _ _ h => h) (Or.inl ⟨by rfl, ?_⟩) (by assumption) ?_
  rotate_left
  · intro w hSw; (try dsimp only at hSw); go_simp; (try with_reducible rfl)
  try simp only [Act.put, List.setIfInBounds_toArray, List.set_cons_zero, List.set_cons_succ]
  refine wpAnyH_take (i := 17) (oi := ⟨some 8, _, _, _, _, _⟩) (v := ?_) rfl (by kernel_rfl) (by kernel_rfl) (by kernel_rfl) (fun _ _ _ h => h) (Or.inl ⟨by rfl, ?_⟩) (by assumption) ?_
  rotate_left
  · intro w hSw; (try dsimp only at hSw); go_simp; (try with_reducible rfl)
  try simp only [Act.put, List.setIfInBounds_toArray, List.set_cons_zero, List.set_cons_succ]
  refine wpAnyH_done (by kernel_rfl) ?_ _
  go_wp2
  go_ret
  refine ⟨ret_bool ?_, (x5.call y3).below⟩
  cases v <;> rfl
end Go.Proofs.Ythikllbfkagdnaa
