/- Statements of layer 6, walked: what is put has a sum that fits, its type and code ahead, and its body behind eight bytes. -/
import Derived.Deep.RegionHeld3
import Derived.Test.YtndhiopfkgdhcaaIcmpL6
namespace Go.Proofs.Ytndhiopfkgdhcaa
open Go.ChangeShapes Go.WideShapes Go.ChangeAt Go.RowKit
set_option linter.unusedVariables false
set_option linter.unusedSimpArgs false

theorem same_y (A : Option Addr) (n c : Nat) (a : List UInt8) (A' : Option Addr) (n' c' : Nat) (b : List UInt8) (B B' : Nat) (W X : World) (r : Bool) (hr : (a == b) = r) (hn : a.length = n) (hn' : b.length = n') (h : Bs W B A a) (hB : B ≤ W.heap.size) (h' : Bs W B' A' b) (hB' : B' ≤ W.heap.size) (hl : n ≤ 16777216) (hl' : n' ≤ 16777216) (x : Below W.heap.size W X) :
    Calls Try.prog 11 #[.slice A n c, .slice A' n' c'] X fun e w' => e = .returned (.bool r) ∧ Below W.heap.size W w' :=
  (rsame_x A n c a A' n' c' b B B' W X r hr hn hn' h hB h' hB' hl hl' x).mono fun _ _ ⟨e, m, hw⟩ => ⟨e, hw ▸ below_dn x m⟩
theorem rsum_v (A : Option Addr) (n c : Nat) (l : List UInt8) (B : Nat) (w : World) (k : Int) (hk : fo (tot l) = k) (hn : l.length = n) (h : Bs w B A l) (hB : B ≤ w.heap.size) (hl : n ≤ 16777216) (hlc : n ≤ c) :
    Calls Try.prog 29 #[.slice A n c] w fun e w' => e = .returned (.int .u16 k) ∧ Below w.heap.size w w' := hk ▸ rsum_n A n c l B w hn h hB hl hlc
/-- a message neither asks and answers, nor is it an error then. -/
theorem kinds (k : Int) (x y z : Bool) (hx : askK k = x) (hy : ansK k = y) (hz : errK k = z) : (x = false ∧ y = false) ∨ (x = true ∧ y = false ∧ z = false) ∨ (x = false ∧ y = true ∧ z = false) := by
  subst hx hy hz
  unfold askK ansK errK
  by_cases h8 : k = 8
  · subst h8; exact .inr (.inl ⟨rfl, rfl, rfl⟩)
  by_cases h13 : k = 13
  · subst h13; exact .inr (.inl ⟨rfl, rfl, rfl⟩)
  by_cases h0 : k = 0
  · subst h0; exact .inr (.inr ⟨rfl, rfl, rfl⟩)
  by_cases h14 : k = 14
  · subst h14; exact .inr (.inr ⟨rfl, rfl, rfl⟩)
  · exact .inl ⟨by simp [h8, h13], by simp [h0, h14]⟩

set_option maxRecDepth 100000 in
set_option maxHeartbeats 8000000 in
theorem laidI (m : Ic) (Ab : Option Addr) (cb : Nat) (w : World) (h : IcIn w w.heap.size m Ab cb) :
    Calls Try.prog 7 #[icV m Ab cb] w fun e w' => e = .returned (.bool true) ∧ Below w.heap.size w w' := by
  have HI := Go.Lib.hid h
  have bl := h.blen
  have bc := h.bcap
  have br0 := h.r0
  have br1 := h.r1
  obtain ⟨x, hx⟩ : ∃ x : Bool, askK m.type = x := ⟨_, rfl⟩
  obtain ⟨y, hy⟩ : ∃ y : Bool, ansK m.type = y := ⟨_, rfl⟩
  obtain ⟨z, hz⟩ : ∃ z : Bool, errK m.type = z := ⟨_, rfl⟩
  have HKD := Go.Lib.hid (kinds m.type x y z hx hy hz)
  have HX := Go.Lib.hid hx
  have HY := Go.Lib.hid hy
  have HZ := Go.Lib.hid hz
  clear h hx hy hz
  go_enter Try.func7, Try.ntmps7
  go_wp2_with fail
  refine (awakeI _).mono ?_
  rintro e w1 ⟨rfl, hb1⟩
  dsimp only
  have x1 := (Bi.start (m := m) (Ab := Ab) (cb := cb) (w := w)).call hb1
  clear hb1
  obtain ⟨c0, c1, c2, c3⟩ := x1.cells
  by_cases hu3 : (3000 : Int) < (m.body.length : Int)
  · go_wp2
    go_ret
    exact ⟨rfl, x1.below⟩
  have hul : m.body.length ≤ 3000 := by omega
  have K : ∀ Y, Below w1.heap.size w1 Y → Y.cell? ⟨w.heap.size, 0, none⟩ = some (.int .i64 m.type) ∧ Y.cell? ⟨w.heap.size, 1, none⟩ = some (.int .i64 m.code) ∧ Y.cell? ⟨w.heap.size, 2, none⟩ = some (.int .u32 m.rest) ∧ Y.cell? ⟨w.heap.size, 3, none⟩ = some (.slice Ab m.body.length cb) ∧ Below w1.heap.size w1 Y := fun Y y => by
    obtain ⟨c0, c1, c2, c3⟩ := (x1.call y).cells
    exact ⟨c0, c1, c2, c3, y⟩
  have y0 : Below w1.heap.size w1 w1.drew := below_drew (Below.refl _ _)
  go_upto_region 5 with fail
  refine wp_region_held_drew (S := (fun Y => Y.cell? ⟨w.heap.size, 0, none⟩ = some (.int .i64 m.type) ∧ Y.cell? ⟨w.heap.size, 1, none⟩ = some (.int .i64 m.code) ∧ Y.cell? ⟨w.heap.size, 2, none⟩ = some (.int .u32 m.rest) ∧ Y.cell? ⟨w.heap.size, 3, none⟩ = some (.slice Ab m.body.length cb) ∧ Below w1.heap.size w1 Y)) (by kernel_rfl) ?_ (fun hHeld => ?_)
  · exact K _ y0
  refine wpAnyH_take (i := 0) (oi := ⟨some 14, _, _, _, _, _⟩) (v := ?_) rfl (by kernel_rfl) (by kernel_rfl) (by kernel_rfl) (fun _ _ _ h => h) (Or.inl ⟨by rfl, ?_⟩) (by assumption) ?_
  rotate_left
  · intro w hSw; (try dsimp only at hSw); go_simp; (try with_reducible rfl)
  try simp only [Act.put, List.setIfInBounds_toArray, List.set_cons_zero, List.set_cons_succ]
  refine wpAnyH_take (i := 2) (oi := ⟨some 16, _, _, _, _, _⟩) (v := ?_) rfl (by kernel_rfl) (by kernel_rfl) (by kernel_rfl) (fun _ _ _ h => h) (Or.inl ⟨by rfl, ?_⟩) (by assumption) ?_
  rotate_left
  · intro w hSw; (try dsimp only at hSw); go_simp; (try with_reducible rfl)
  try simp only [Act.put, List.setIfInBounds_toArray, List.set_cons_zero, List.set_cons_succ]
  refine wpAnyH_take (i := 4) (oi := ⟨some 18, _, _, _, _, _⟩) (v := ?_) rfl (by kernel_rfl) (by kernel_rfl) (by kernel_rfl) (fun _ _ _ h => h) (Or.inl ⟨by rfl, ?_⟩) (by assumption) ?_
  rotate_left
  · intro w hSw; (try dsimp only at hSw); go_simp; (try with_reducible rfl)
  try simp only [Act.put, List.setIfInBounds_toArray, List.set_cons_zero, List.set_cons_succ]
  refine wpAnyH_ready (rs := [1]) (by kernel_rfl) (by simp) (AllReadyH.cons (o := ⟨some 15, _, _, _, _, _⟩) rfl (fun Kc hKc => ?_) AllReadyH.nil)
  go_simp
  go_at_call 14; refine (iasks m Ab cb _ x HX.out).mono ?_; rintro e v1 ⟨rfl, b1⟩; have y1 := y0.trans (b1.mono y0.size)
  clear hHeld
  refine hKc.out _ _ ?_ (fun hHeld => ?_)
  · (try dsimp only); exact K _ y1
  clear hKc Kc
  try simp only [Act.put, List.setIfInBounds_toArray, List.set_cons_zero, List.set_cons_succ]
  refine wpAnyH_ready (rs := [3]) (by kernel_rfl) (by simp) (AllReadyH.cons (o := ⟨some 17, _, _, _, _, _⟩) rfl (fun Kc hKc => ?_) AllReadyH.nil)
  go_simp
  go_at_call 15; refine (ianswers m Ab cb _ y HY.out).mono ?_; rintro e v2 ⟨rfl, b2⟩; have y2 := y1.trans (b2.mono y1.size)
  clear hHeld
  refine hKc.out _ _ ?_ (fun hHeld => ?_)
  · (try dsimp only); exact K _ y2
  clear hKc Kc
  try simp only [Act.put, List.setIfInBounds_toArray, List.set_cons_zero, List.set_cons_succ]
  refine wpAnyH_ready (rs := [5]) (by kernel_rfl) (by simp) (AllReadyH.cons (o := ⟨some 19, _, _, _, _, _⟩) rfl (fun Kc hKc => ?_) AllReadyH.nil)
  go_simp
  go_at_call 16; refine (ierror m Ab cb _ z HZ.out).mono ?_; rintro e v3 ⟨rfl, b3⟩; have y3 := y2.trans (b3.mono y2.size)
  clear hHeld
  refine hKc.out _ _ ?_ (fun hHeld => ?_)
  · (try dsimp only); exact K _ y3
  clear hKc Kc
  try simp only [Act.put, List.setIfInBounds_toArray, List.set_cons_zero, List.set_cons_succ]
  refine wpAnyH_take (i := 6) (oi := ⟨some 3, _, _, _, _, _⟩) (v := ?_) rfl (by kernel_rfl) (by kernel_rfl) (by kernel_rfl) (fun _ _ _ h => h) (Or.inl ⟨by rfl, ?_⟩) (by assumption) ?_
  rotate_left
  · intro w hSw; (try dsimp only at hSw); go_simp; (try with_reducible rfl)
  try simp only [Act.put, List.setIfInBounds_toArray, List.set_cons_zero, List.set_cons_succ]
  refine wpAnyH_take (i := 7) (oi := ⟨some 4, _, _, _, _, _⟩) (v := ?_) rfl (by kernel_rfl) (by kernel_rfl) (by kernel_rfl) (fun _ _ _ h => h) (Or.inl ⟨by rfl, ?_⟩) (by assumption) ?_
  rotate_left
  · intro w hSw; (try dsimp only at hSw); go_simp; (try with_reducible rfl)
  try simp only [Act.put, List.setIfInBounds_toArray, List.set_cons_zero, List.set_cons_succ]
  refine wpAnyH_take (i := 8) (oi := ⟨some 5, _, _, _, _, _⟩) (v := ?_) rfl (by kernel_rfl) (by kernel_rfl) (by kernel_rfl) (fun _ _ _ h => h) (Or.inl ⟨by rfl, ?_⟩) (by assumption) ?_
  rotate_left
  · intro w hSw; (try dsimp only at hSw); go_simp; (try with_reducible rfl)
  try simp only [Act.put, List.setIfInBounds_toArray, List.set_cons_zero, List.set_cons_succ]
  refine wpAnyH_done (by kernel_rfl) ?_ _
  have x3 := x1.call y3
  clear x1 K y0 y1 y2 y3 b1 b2 b3 hHeld c0 c1 c2 c3
  obtain ⟨c0, c1, c2, c3⟩ := x3.cells
  rcases HKD.out with ⟨rfl, rfl⟩ | ⟨rfl, rfl, rfl⟩ | ⟨rfl, rfl, rfl⟩
  all_goals
    by_cases hM : MayI m
    · have HM := Go.Lib.hid hM
      obtain ⟨N, hN⟩ : ∃ N : Nat, N = 8 + m.body.length := ⟨_, rfl⟩
      have HNN := Go.Lib.hid hN
      have hN3 : N ≤ 3008 := by omega
      have hN8 : 8 ≤ N := by omega
      obtain ⟨g0, g1, _⟩ := ic_bytes m (chkI m) hM ⟨br0, br1⟩
      have mt0 := hM.t0
      have mt1 := hM.t1
      have mc0 := hM.c0
      have mc1 := hM.c1
      have HPL : Hid ((putI m).length = N) := Go.Lib.hid (by rw [putI_length, hN])
      have HDR : Hid ((putI m).drop 8 = m.body) := Go.Lib.hid rfl
      have HSUM : Hid (fo (tot (putI m)) = 65535) := Go.Lib.hid (sum_putI m)
      clear hN hM
      go_wp2_with fail
      refine (iputYes m Ab cb _ HM.out (HI.out.at x3.below) N HNN.out).mono ?_
      rintro e w3 ⟨g, c, rfl, hown, hb3⟩
      dsimp only
      have x4 := x3.call hb3
      have hcap := hown.cap
      unfold maxLen at hcap
      obtain ⟨hcc1, hcc2⟩ := hcap
      have HPB := Go.Lib.hid hown.bs
      have hgl := hown.lt.2
      have b0 : w3.cell? ⟨g, 0, none⟩ = some (.int .u8 m.type) := by have := hown.cellAt 0 (by omega); rwa [show g8 (putI m) 0 = m.type from g0] at this
      have b1 : w3.cell? ⟨g, 1, none⟩ = some (.int .u8 m.code) := by have := hown.cellAt 1 (by omega); rwa [show g8 (putI m) 1 = m.code from g1] at this
      have i0 : 0 < N := by omega
      have i1 : (1 : Int) < (N : Int) := by omega
      have i8 : (8 : Int) ≤ (N : Int) := by omega
      have i9 : (8 : Int) ≤ (c : Int) := by omega
      have q0 := IntWalk.i64_in m.type (by omega)
      have q1 := IntWalk.i64_in m.code (by omega)
      have e8 := IntWalk.i64_in ((8 : Int) + (m.body.length : Int)) (by omega)
      have t8 : ((N : Int) == (8 : Int) + (m.body.length : Int)) = true := by have := HNN.out; simp; omega
      have HBB : Hid (Bs w3 w3.heap.size (if c = 8 then (some ⟨g, 0, none⟩ : Option Addr) else some ⟨g, 8, none⟩) m.body) := Go.Lib.hid (by
        have := HPB.out.cut 8 c (by rw [HPL.out]; exact hcc1) (by omega)
        rw [HDR.out] at this
        simpa using this)
      obtain ⟨A8, hA8⟩ : ∃ A8, (if c = 8 then (some ⟨g, 0, none⟩ : Option Addr) else some ⟨g, 8, none⟩) = A8 := ⟨_, rfl⟩
      rw [hA8] at HBB
      have HAB : Hid (Bs w3 w3.heap.size Ab m.body) := Go.Lib.hid (HI.out.at x4.below).bs
      have HBL : Hid (m.body.length = N - 8) := Go.Lib.hid (by have := HNN.out; omega)
      clear hown hb3 x3 c0 c1 c2 c3 g0 g1
      obtain ⟨c0, c1, c2, c3⟩ := x4.cells
      have K3 : ∀ Y, Below w3.heap.size w3 Y → Y.cell? ⟨w.heap.size, 0, none⟩ = some (.int .i64 m.type) ∧ Y.cell? ⟨w.heap.size, 1, none⟩ = some (.int .i64 m.code) ∧ Y.cell? ⟨w.heap.size, 2, none⟩ = some (.int .u32 m.rest) ∧ Y.cell? ⟨w.heap.size, 3, none⟩ = some (.slice Ab m.body.length cb) ∧ Y.cell? ⟨g, 0, none⟩ = some (.int .u8 m.type) ∧ Y.cell? ⟨g, 1, none⟩ = some (.int .u8 m.code) ∧ Below w3.heap.size w3 Y := fun Y y => by
        obtain ⟨c0, c1, c2, c3⟩ := (x4.call y).cells
        exact ⟨c0, c1, c2, c3, (y.cell (p := ⟨g, 0, none⟩) hgl).trans b0, (y.cell (p := ⟨g, 1, none⟩) hgl).trans b1, y⟩
      have xb := x4.below
      have u0 : Below w3.heap.size w3 w3.drew := below_drew (Below.refl _ _)
      go_upto_region 11 with fail
      refine wp_region_held_drew (S := (fun Y => Y.cell? ⟨w.heap.size, 0, none⟩ = some (.int .i64 m.type) ∧ Y.cell? ⟨w.heap.size, 1, none⟩ = some (.int .i64 m.code) ∧ Y.cell? ⟨w.heap.size, 2, none⟩ = some (.int .u32 m.rest) ∧ Y.cell? ⟨w.heap.size, 3, none⟩ = some (.slice Ab m.body.length cb) ∧ Y.cell? ⟨g, 0, none⟩ = some (.int .u8 m.type) ∧ Y.cell? ⟨g, 1, none⟩ = some (.int .u8 m.code) ∧ Below w3.heap.size w3 Y)) (by kernel_rfl) ?_ (fun hHeld => ?_)
      · exact K3 _ u0
      refine wpAnyH_take (i := 0) (oi := ⟨some 43, _, _, _, _, _⟩) (v := ?_) rfl (by kernel_rfl) (by kernel_rfl) (by kernel_rfl) (fun _ _ _ h => h) (Or.inl ⟨by rfl, ?_⟩) (by assumption) ?_
      rotate_left
      · intro w hSw; (try dsimp only at hSw); go_simp; (try with_reducible rfl)
      try simp only [Act.put, List.setIfInBounds_toArray, List.set_cons_zero, List.set_cons_succ]
      refine wpAnyH_take (i := 1) (oi := ⟨some 44, _, _, _, _, _⟩) (v := ?_) rfl (by kernel_rfl) (by kernel_rfl) (by kernel_rfl) (fun _ _ _ h => h) (Or.inl ⟨by rfl, ?_⟩) (by assumption) ?_
      rotate_left
      · intro w hSw; (try dsimp only at hSw); go_simp; (try with_reducible rfl)
      try simp only [Act.put, List.setIfInBounds_toArray, List.set_cons_zero, List.set_cons_succ]
      refine wpAnyH_take (i := 2) (oi := ⟨some 45, _, _, _, _, _⟩) (v := ?_) rfl (by kernel_rfl) (by kernel_rfl) (by kernel_rfl) (fun _ _ _ h => h) (Or.inl ⟨by rfl, ?_⟩) (by assumption) ?_
      rotate_left
      · intro w hSw; (try dsimp only at hSw); go_simp; (try with_reducible rfl)
      try simp only [Act.put, List.setIfInBounds_toArray, List.set_cons_zero, List.set_cons_succ]
      refine wpAnyH_take (i := 3) (oi := ⟨some 46, _, _, _, _, _⟩) (v := ?_) rfl (by kernel_rfl) (by kernel_rfl) (by kernel_rfl) (fun _ _ _ h => h) (Or.inl ⟨by rfl, ?_⟩) (by assumption) ?_
      rotate_left
      · intro w hSw; (try dsimp only at hSw); go_simp; (try with_reducible rfl)
      try simp only [Act.put, List.setIfInBounds_toArray, List.set_cons_zero, List.set_cons_succ]
      refine wpAnyH_take (i := 4) (oi := ⟨some 47, _, _, _, _, _⟩) (v := ?_) rfl (by kernel_rfl) (by kernel_rfl) (by kernel_rfl) (fun _ _ _ h => h) (Or.inl ⟨by rfl, ?_⟩) (by assumption) ?_
      rotate_left
      · intro w hSw; (try dsimp only at hSw); go_simp; (try with_reducible rfl)
      try simp only [Act.put, List.setIfInBounds_toArray, List.set_cons_zero, List.set_cons_succ]
      refine wpAnyH_take (i := 5) (oi := ⟨some 48, _, _, _, _, _⟩) (v := ?_) rfl (by kernel_rfl) (by kernel_rfl) (by kernel_rfl) (fun _ _ _ h => h) (Or.inl ⟨by rfl, ?_⟩) (by assumption) ?_
      rotate_left
      · intro w hSw; (try dsimp only at hSw); go_simp; (try with_reducible rfl)
      try simp only [Act.put, List.setIfInBounds_toArray, List.set_cons_zero, List.set_cons_succ]
      refine wpAnyH_take (i := 6) (oi := ⟨some 49, _, _, _, _, _⟩) (v := ?_) rfl (by kernel_rfl) (by kernel_rfl) (by kernel_rfl) (fun _ _ _ h => h) (Or.inl ⟨by rfl, ?_⟩) (by assumption) ?_
      rotate_left
      · intro w hSw; (try dsimp only at hSw); go_simp; (try with_reducible rfl)
      try simp only [Act.put, List.setIfInBounds_toArray, List.set_cons_zero, List.set_cons_succ]
      refine wpAnyH_take (i := 7) (oi := ⟨some 50, _, _, _, _, _⟩) (v := ?_) rfl (by kernel_rfl) (by kernel_rfl) (by kernel_rfl) (fun _ _ _ h => h) (Or.inl ⟨by rfl, ?_⟩) (by assumption) ?_
      rotate_left
      · intro w hSw; (try dsimp only at hSw); go_simp; (try with_reducible rfl)
      try simp only [Act.put, List.setIfInBounds_toArray, List.set_cons_zero, List.set_cons_succ]
      refine wpAnyH_take (i := 8) (oi := ⟨some 51, _, _, _, _, _⟩) (v := ?_) rfl (by kernel_rfl) (by kernel_rfl) (by kernel_rfl) (fun _ _ _ h => h) (Or.inl ⟨by rfl, ?_⟩) (by assumption) ?_
      rotate_left
      · intro w hSw; (try dsimp only at hSw); go_simp; (try with_reducible rfl)
      try simp only [Act.put, List.setIfInBounds_toArray, List.set_cons_zero, List.set_cons_succ]
      refine wpAnyH_take (i := 9) (oi := ⟨some 52, _, _, _, _, _⟩) (v := ?_) rfl (by kernel_rfl) (by kernel_rfl) (by kernel_rfl) (fun _ _ _ h => h) (Or.inl ⟨by rfl, ?_⟩) (by assumption) ?_
      rotate_left
      · intro w hSw; (try dsimp only at hSw); go_simp; (try with_reducible rfl)
      try simp only [Act.put, List.setIfInBounds_toArray, List.set_cons_zero, List.set_cons_succ]
      refine wpAnyH_take (i := 10) (oi := ⟨some 53, _, _, _, _, _⟩) (v := ?_) rfl (by kernel_rfl) (by kernel_rfl) (by kernel_rfl) (fun _ _ _ h => h) (Or.inl ⟨by rfl, ?_⟩) (by assumption) ?_
      rotate_left
      · intro w hSw; (try dsimp only at hSw); go_simp; (try with_reducible rfl)
      try simp only [Act.put, List.setIfInBounds_toArray, List.set_cons_zero, List.set_cons_succ]
      refine wpAnyH_take (i := 11) (oi := ⟨some 54, _, _, _, _, _⟩) (v := ?_) rfl (by kernel_rfl) (by kernel_rfl) (by kernel_rfl) (fun _ _ _ h => h) (Or.inl ⟨by rfl, ?_⟩) (by assumption) ?_
      rotate_left
      · intro w hSw; (try dsimp only at hSw); go_simp; (try with_reducible rfl)
      try simp only [Act.put, List.setIfInBounds_toArray, List.set_cons_zero, List.set_cons_succ]
      refine wpAnyH_take (i := 12) (oi := ⟨some 55, _, _, _, _, _⟩) (v := ?_) rfl (by kernel_rfl) (by kernel_rfl) (by kernel_rfl) (fun _ _ _ h => h) (Or.inl ⟨by rfl, ?_⟩) (by assumption) ?_
      rotate_left
      · intro w hSw; (try dsimp only at hSw); go_simp; (try with_reducible rfl)
      try simp only [Act.put, List.setIfInBounds_toArray, List.set_cons_zero, List.set_cons_succ]
      refine wpAnyH_take (i := 13) (oi := ⟨some 56, _, _, _, _, _⟩) (v := ?_) rfl (by kernel_rfl) (by kernel_rfl) (by kernel_rfl) (fun _ _ _ h => h) (Or.inl ⟨by rfl, ?_⟩) (by assumption) ?_
      rotate_left
      · intro w hSw; (try dsimp only at hSw); go_simp; (try with_reducible rfl)
      try simp only [Act.put, List.setIfInBounds_toArray, List.set_cons_zero, List.set_cons_succ]
      refine wpAnyH_take (i := 14) (oi := ⟨some 57, _, _, _, _, _⟩) (v := ?_) rfl (by kernel_rfl) (by kernel_rfl) (by kernel_rfl) (fun _ _ _ h => h) (Or.inl ⟨by rfl, ?_⟩) (by assumption) ?_
      rotate_left
      · intro w hSw; (try dsimp only at hSw); go_simp; (try with_reducible rfl)
      try simp only [Act.put, List.setIfInBounds_toArray, List.set_cons_zero, List.set_cons_succ]
      refine wpAnyH_take (i := 15) (oi := ⟨some 58, _, _, _, _, _⟩) (v := ?_) rfl (by kernel_rfl) (by kernel_rfl) (by kernel_rfl) (fun _ _ _ h => h) (Or.inl ⟨by rfl, ?_⟩) (by assumption) ?_
      rotate_left
      · intro w hSw; (try dsimp only at hSw); go_simp; (try with_reducible rfl)
      try simp only [Act.put, List.setIfInBounds_toArray, List.set_cons_zero, List.set_cons_succ]
      refine wpAnyH_take (i := 16) (oi := ⟨some 59, _, _, _, _, _⟩) (v := ?_) rfl (by kernel_rfl) (by kernel_rfl) (by kernel_rfl) (fun _ _ _ h => h) (Or.inl ⟨by rfl, ?_⟩) (by assumption) ?_
      rotate_left
      · intro w hSw; (try dsimp only at hSw); go_simp; (try with_reducible rfl)
      try simp only [Act.put, List.setIfInBounds_toArray, List.set_cons_zero, List.set_cons_succ]
      refine wpAnyH_take (i := 17) (oi := ⟨some 60, _, _, _, _, _⟩) (v := ?_) rfl (by kernel_rfl) (by kernel_rfl) (by kernel_rfl) (fun _ _ _ h => h) (Or.inl ⟨by rfl, ?_⟩) (by assumption) ?_
      rotate_left
      · intro w hSw; (try dsimp only at hSw); go_simp; (try with_reducible rfl)
      try simp only [Act.put, List.setIfInBounds_toArray, List.set_cons_zero, List.set_cons_succ]
      refine wpAnyH_take (i := 18) (oi := ⟨some 61, _, _, _, _, _⟩) (v := ?_) rfl (by kernel_rfl) (by kernel_rfl) (by kernel_rfl) (fun _ _ _ h => h) (Or.inl ⟨by rfl, ?_⟩) (by assumption) ?_
      rotate_left
      · intro w hSw; (try dsimp only at hSw); go_simp; (try with_reducible rfl)
      try simp only [Act.put, List.setIfInBounds_toArray, List.set_cons_zero, List.set_cons_succ]
      refine wpAnyH_take (i := 19) (oi := ⟨some 62, _, _, _, _, _⟩) (v := ?_) rfl (by kernel_rfl) (by kernel_rfl) (by kernel_rfl) (fun _ _ _ h => h) (Or.inl ⟨by rfl, ?_⟩) (by assumption) ?_
      rotate_left
      · intro w hSw; (try dsimp only at hSw); go_simp; (try with_reducible rfl)
      try simp only [Act.put, List.setIfInBounds_toArray, List.set_cons_zero, List.set_cons_succ]
      refine wpAnyH_take (i := 20) (oi := ⟨some 63, _, _, _, _, _⟩) (v := ?_) rfl (by kernel_rfl) (by kernel_rfl) (by kernel_rfl) (fun _ _ _ h => h) (Or.inl ⟨by rfl, ?_⟩) (by assumption) ?_
      rotate_left
      · intro w hSw; (try dsimp only at hSw); go_simp; (try with_reducible rfl)
      try simp only [Act.put, List.setIfInBounds_toArray, List.set_cons_zero, List.set_cons_succ]
      refine wpAnyH_take (i := 21) (oi := ⟨some 64, _, _, _, _, _⟩) (v := ?_) rfl (by kernel_rfl) (by kernel_rfl) (by kernel_rfl) (fun _ _ _ h => h) (Or.inl ⟨by rfl, ?_⟩) (by assumption) ?_
      rotate_left
      · intro w hSw; (try dsimp only at hSw); go_simp; (try with_reducible rfl)
      try simp only [Act.put, List.setIfInBounds_toArray, List.set_cons_zero, List.set_cons_succ]
      refine wpAnyH_take (i := 22) (oi := ⟨some 65, _, _, _, _, _⟩) (v := ?_) rfl (by kernel_rfl) (by kernel_rfl) (by kernel_rfl) (fun _ _ _ h => h) (Or.inl ⟨by rfl, ?_⟩) (by assumption) ?_
      rotate_left
      · intro w hSw; (try dsimp only at hSw); go_simp; (try with_reducible rfl)
      try simp only [Act.put, List.setIfInBounds_toArray, List.set_cons_zero, List.set_cons_succ]
      refine wpAnyH_take (i := 23) (oi := ⟨some 66, _, _, _, _, _⟩) (v := ?_) rfl (by kernel_rfl) (by kernel_rfl) (by kernel_rfl) (fun _ _ _ h => h) (Or.inl ⟨by rfl, ?_⟩) (by assumption) ?_
      rotate_left
      · intro w hSw; (try dsimp only at hSw); go_simp; (try with_reducible rfl)
      try simp only [Act.put, List.setIfInBounds_toArray, List.set_cons_zero, List.set_cons_succ]
      refine wpAnyH_take (i := 24) (oi := ⟨some 67, _, _, _, _, _⟩) (v := ?_) rfl (by kernel_rfl) (by kernel_rfl) (by kernel_rfl) (fun _ _ _ h => h) (Or.inl ⟨by rfl, ?_⟩) (by assumption) ?_
      rotate_left
      · intro w hSw; (try dsimp only at hSw); go_simp; (try with_reducible rfl)
      try simp only [Act.put, List.setIfInBounds_toArray, List.set_cons_zero, List.set_cons_succ]
      refine wpAnyH_take (i := 25) (oi := ⟨some 68, _, _, _, _, _⟩) (v := ?_) rfl (by kernel_rfl) (by kernel_rfl) (by kernel_rfl) (fun _ _ _ h => h) (Or.inl ⟨by rfl, ?_⟩) (by assumption) ?_
      rotate_left
      · intro w hSw; (try dsimp only at hSw); go_simp; (try with_reducible rfl)
      try simp only [Act.put, List.setIfInBounds_toArray, List.set_cons_zero, List.set_cons_succ]
      refine wpAnyH_take (i := 26) (oi := ⟨some 69, _, _, _, _, _⟩) (v := ?_) rfl (by kernel_rfl) (by kernel_rfl) (by kernel_rfl) (fun _ _ _ h => h) (Or.inl ⟨by rfl, ?_⟩) (by assumption) ?_
      rotate_left
      · intro w hSw; (try dsimp only at hSw); go_simp; (try with_reducible rfl)
      try simp only [Act.put, List.setIfInBounds_toArray, List.set_cons_zero, List.set_cons_succ]
      refine wpAnyH_ready (rs := [27]) (by kernel_rfl) (by simp) (AllReadyH.cons (o := ⟨some 70, _, _, _, _, _⟩) rfl (fun Kc hKc => ?_) AllReadyH.nil)
      go_simp
      go_at_call 29; refine (rsum_v (some ⟨g, 0, none⟩) N c (putI m) w3.heap.size _ 65535 HSUM.out HPL.out (HPB.out.below u0) u0.size (by omega) hcc1).mono ?_; rintro e v4 ⟨rfl, b4⟩; have u4 := u0.trans (b4.mono u0.size)
      clear hHeld
      refine hKc.out _ _ ?_ (fun hHeld => ?_)
      · (try dsimp only); exact K3 _ u4
      clear hKc Kc
      try simp only [Act.put, List.setIfInBounds_toArray, List.set_cons_zero, List.set_cons_succ]
      refine wpAnyH_take (i := 28) (oi := ⟨some 71, _, _, _, _, _⟩) (v := ?_) rfl (by kernel_rfl) (by kernel_rfl) (by kernel_rfl) (fun _ _ _ h => h) (Or.inl ⟨by rfl, ?_⟩) (by assumption) ?_
      rotate_left
      · intro w hSw; (try dsimp only at hSw); go_simp; (try with_reducible rfl)
      try simp only [Act.put, List.setIfInBounds_toArray, List.set_cons_zero, List.set_cons_succ]
      refine wpAnyH_take (i := 29) (oi := ⟨some 72, _, _, _, _, _⟩) (v := ?_) rfl (by kernel_rfl) (by kernel_rfl) (by kernel_rfl) (fun _ _ _ h => h) (Or.inl ⟨by rfl, ?_⟩) (by assumption) ?_
      rotate_left
      · intro w hSw; (try dsimp only at hSw); go_simp; (try with_reducible rfl)
      try simp only [Act.put, List.setIfInBounds_toArray, List.set_cons_zero, List.set_cons_succ]
      refine wpAnyH_take (i := 30) (oi := ⟨some 73, _, _, _, _, _⟩) (v := ?_) rfl (by kernel_rfl) (by kernel_rfl) (by kernel_rfl) (fun _ _ _ h => h) (Or.inl ⟨by rfl, ?_⟩) (by assumption) ?_
      rotate_left
      · intro w hSw; (try dsimp only at hSw); go_simp; (try with_reducible rfl)
      try simp only [Act.put, List.setIfInBounds_toArray, List.set_cons_zero, List.set_cons_succ]
      refine wpAnyH_take (i := 31) (oi := ⟨some 74, _, _, _, _, _⟩) (v := ?_) rfl (by kernel_rfl) (by kernel_rfl) (by kernel_rfl) (fun _ _ _ h => h) (Or.inl ⟨by rfl, ?_⟩) (by assumption) ?_
      rotate_left
      · intro w hSw; (try dsimp only at hSw); go_simp; (try with_reducible rfl)
      try simp only [Act.put, List.setIfInBounds_toArray, List.set_cons_zero, List.set_cons_succ]
      refine wpAnyH_take (i := 32) (oi := ⟨some 75, _, _, _, _, _⟩) (v := ?_) rfl (by kernel_rfl) (by kernel_rfl) (by kernel_rfl) (fun _ _ _ h => h) (Or.inl ⟨by rfl, ?_⟩) (by assumption) ?_
      rotate_left
      · intro w hSw; (try dsimp only at hSw); go_simp; (try with_reducible rfl)
      try simp only [Act.put, List.setIfInBounds_toArray, List.set_cons_zero, List.set_cons_succ]
      refine wpAnyH_take (i := 33) (oi := ⟨some 76, _, _, _, _, _⟩) (v := ?_) rfl (by kernel_rfl) (by kernel_rfl) (by kernel_rfl) (fun _ _ _ h => h) (Or.inl ⟨by rfl, ?_⟩) (by assumption) ?_
      rotate_left
      · intro w hSw; (try dsimp only at hSw); go_simp; (try with_reducible rfl)
      try simp only [Act.put, List.setIfInBounds_toArray, List.set_cons_zero, List.set_cons_succ]
      refine wpAnyH_take (i := 34) (oi := ⟨some 77, _, _, _, _, _⟩) (v := ?_) rfl (by kernel_rfl) (by kernel_rfl) (by kernel_rfl) (fun _ _ _ h => h) (Or.inl ⟨by rfl, ?_⟩) (by assumption) ?_
      rotate_left
      · intro w hSw; (try dsimp only at hSw); go_simp; (try with_reducible rfl)
      try simp only [Act.put, List.setIfInBounds_toArray, List.set_cons_zero, List.set_cons_succ]
      refine wpAnyH_ready (rs := [35]) (by kernel_rfl) (by simp) (AllReadyH.cons (o := ⟨some 78, _, _, _, _, _⟩) rfl (fun Kc hKc => ?_) AllReadyH.nil)
      go_simp
      go_at_call 11; refine (same_y A8 (N - 8) (c - 8) m.body Ab _ cb m.body w3.heap.size w3.heap.size w3 _ true (by simp) HBL.out rfl HBB.out (Nat.le_refl _) HAB.out (Nat.le_refl _) (by omega) (by omega) u4).mono ?_; rintro e v5 ⟨rfl, u5⟩
      clear hHeld
      refine hKc.out _ _ ?_ (fun hHeld => ?_)
      · (try dsimp only); exact K3 _ u5
      clear hKc Kc
      try simp only [Act.put, List.setIfInBounds_toArray, List.set_cons_zero, List.set_cons_succ]
      refine wpAnyH_take (i := 36) (oi := ⟨some 79, _, _, _, _, _⟩) (v := ?_) rfl (by kernel_rfl) (by kernel_rfl) (by kernel_rfl) (fun _ _ _ h => h) (Or.inl ⟨by rfl, ?_⟩) (by assumption) ?_
      rotate_left
      · intro w hSw; (try dsimp only at hSw); go_simp; (try with_reducible rfl)
      try simp only [Act.put, List.setIfInBounds_toArray, List.set_cons_zero, List.set_cons_succ]
      refine wpAnyH_take (i := 37) (oi := ⟨some 2, _, _, _, _, _⟩) (v := ?_) rfl (by kernel_rfl) (by kernel_rfl) (by kernel_rfl) (fun _ _ _ h => h) (Or.inl ⟨by rfl, ?_⟩) (by assumption) ?_
      rotate_left
      · intro w hSw; (try dsimp only at hSw); go_simp; (try with_reducible rfl)
      try simp only [Act.put, List.setIfInBounds_toArray, List.set_cons_zero, List.set_cons_succ]
      refine wpAnyH_done (by kernel_rfl) ?_ _
      go_wp2
      go_ret
      exact ⟨rfl, xb.trans (u5.mono xb.size)⟩
    · go_wp2_with fail
      refine (iputNo m Ab cb _ hM (by omega)).mono ?_
      rintro e w4 ⟨rfl, hb4⟩
      dsimp only
      have x4 := x3.call hb4
      clear hb4 x3 c0 c1 c2 c3 hM
      go_wp2
      go_ret
      exact ⟨rfl, x4.below⟩
end Go.Proofs.Ytndhiopfkgdhcaa
