/- The contract of package tcp's read. -/
import Derived.Test.YtghgemmbbedopaaTcpA9
namespace Go.Proofs.Ytghgemmbbedopaa
open Go.ChangeShapes Go.WideShapes Go.ChangeAt Go.RowKit
set_option linter.unusedVariables false
set_option linter.unusedSimpArgs false

/-- a world in which an empty segment lies in the newest block. -/
abbrev Zt (w : World) : World := w.alloc (.cells #[.int .i64 0, .int .i64 0, .int .u32 0, .int .u32 0, .int .i64 0, .int .i64 0, .int .i64 0, .slice none 0 0, .slice none 0 0] 26)
theorem Zt.below {w X : World} (x : Below (w.heap.size + 1) (Zt w) X) : Below w.heap.size w X := ((Below.refl _ _).alloc (Nat.le_refl _) _).trans (x.mono (Nat.le_succ _))
theorem Zt.size {w X : World} (x : Below (w.heap.size + 1) (Zt w) X) : w.heap.size + 1 ≤ X.heap.size := by have := x.size; simpa using this
theorem zt_of {w w' : World} (h : Below (w.heap.size + 1) (Zt w) w') :
    (w'.cell? ⟨w.heap.size, 0, none⟩ = some (.int .i64 0) ∧ w'.cell? ⟨w.heap.size, 1, none⟩ = some (.int .i64 0) ∧ w'.cell? ⟨w.heap.size, 2, none⟩ = some (.int .u32 0) ∧ w'.cell? ⟨w.heap.size, 3, none⟩ = some (.int .u32 0) ∧ w'.cell? ⟨w.heap.size, 4, none⟩ = some (.int .i64 0) ∧ w'.cell? ⟨w.heap.size, 5, none⟩ = some (.int .i64 0) ∧ w'.cell? ⟨w.heap.size, 6, none⟩ = some (.int .i64 0) ∧ w'.cell? ⟨w.heap.size, 7, none⟩ = some (.slice none 0 0) ∧ w'.cell? ⟨w.heap.size, 8, none⟩ = some (.slice none 0 0)) ∧
    (∀ o, w'.frozen? ⟨w.heap.size, o, none⟩ = false) := by
  have hc := fun (o : Nat) => Below.cell h (p := ⟨w.heap.size, o, none⟩) (Nat.lt_succ_self _)
  refine ⟨⟨?_, ?_, ?_, ?_, ?_, ?_, ?_, ?_, ?_⟩, fun o => ?_⟩
  · refine (hc _).trans ?_; simp [go_sem]
  · refine (hc _).trans ?_; simp [go_sem]
  · refine (hc _).trans ?_; simp [go_sem]
  · refine (hc _).trans ?_; simp [go_sem]
  · refine (hc _).trans ?_; simp [go_sem]
  · refine (hc _).trans ?_; simp [go_sem]
  · refine (hc _).trans ?_; simp [go_sem]
  · refine (hc _).trans ?_; simp [go_sem]
  · refine (hc _).trans ?_; simp [go_sem]
  · refine (Below.frozen h (p := ⟨w.heap.size, o, none⟩) (Nat.lt_succ_self _)).trans ?_; simp [go_sem]
/-- nine cells of block g are put. -/
abbrev set9 (w : World) (g : Nat) (u0 u1 u2 u3 u4 u5 u6 u7 u8 : Value) : World := (((((((((w.setCell ⟨g, 0, none⟩ u0).setCell ⟨g, 1, none⟩ u1).setCell ⟨g, 2, none⟩ u2).setCell ⟨g, 3, none⟩ u3).setCell ⟨g, 4, none⟩ u4).setCell ⟨g, 5, none⟩ u5).setCell ⟨g, 6, none⟩ u6).setCell ⟨g, 7, none⟩ u7).setCell ⟨g, 8, none⟩ u8)
theorem below_s9 {C g : Nat} {a w : World} (h : Below C a w) (hg : C ≤ g) (u0 u1 u2 u3 u4 u5 u6 u7 u8 : Value) : Below C a (set9 w g u0 u1 u2 u3 u4 u5 u6 u7 u8) := (Below.setCell (Below.setCell (Below.setCell (Below.setCell (Below.setCell (Below.setCell (Below.setCell (Below.setCell (Below.setCell h (p := ⟨g, 0, none⟩) hg u0) (p := ⟨g, 1, none⟩) hg u1) (p := ⟨g, 2, none⟩) hg u2) (p := ⟨g, 3, none⟩) hg u3) (p := ⟨g, 4, none⟩) hg u4) (p := ⟨g, 5, none⟩) hg u5) (p := ⟨g, 6, none⟩) hg u6) (p := ⟨g, 7, none⟩) hg u7) (p := ⟨g, 8, none⟩) hg u8)
theorem size_s9 (w : World) (g : Nat) (u0 u1 u2 u3 u4 u5 u6 u7 u8 : Value) : (set9 w g u0 u1 u2 u3 u4 u5 u6 u7 u8).heap.size = w.heap.size := by simp [set9]
theorem BsF.set9 {w : World} {lo hi : Nat} {A : Option Addr} {l : List UInt8} (h : BsF w lo hi A l) {g : Nat} (hg : g < lo) (u0 u1 u2 u3 u4 u5 u6 u7 u8 : Value) : BsF (set9 w g u0 u1 u2 u3 u4 u5 u6 u7 u8) lo hi A l :=
  ((((((((h.set hg 0 u0).set hg 1 u1).set hg 2 u2).set hg 3 u3).set hg 4 u4).set hg 5 u5).set hg 6 u6).set hg 7 u7).set hg 8 u8
theorem OsF.set9 {w : World} {lo hi : Nat} {A : Option Addr} {os : List Op} (h : OsF w lo hi A os) {g : Nat} (hg : g < lo) (u0 u1 u2 u3 u4 u5 u6 u7 u8 : Value) : OsF (Go.Proofs.Ytghgemmbbedopaa.set9 w g u0 u1 u2 u3 u4 u5 u6 u7 u8) lo hi A os :=
  ((((((((h.set hg 0 u0).set hg 1 u1).set hg 2 u2).set hg 3 u3).set hg 4 u4).set hg 5 u5).set hg 6 u6).set hg 7 u7).set hg 8 u8
theorem BsF.more {w : World} {lo hi hi' : Nat} {A : Option Addr} {l : List UInt8} (h : BsF w lo hi A l) (hh : hi ≤ hi') : BsF w lo hi' A l := by
  rcases h with c | ⟨ad, e, c1, c2, c3⟩
  · exact .inl c
  · exact .inr ⟨ad, e, c1, by omega, c3⟩
theorem BsF.lower {w : World} {lo lo' hi : Nat} {A : Option Addr} {l : List UInt8} (h : BsF w lo hi A l) (hh : lo' ≤ lo) : BsF w lo' hi A l := by
  rcases h with c | ⟨ad, e, c1, c2, c3⟩
  · exact .inl c
  · exact .inr ⟨ad, e, by omega, c2, c3⟩

/-- a segment's parts out of its bytes. -/
def rdT (l : List UInt8) (k : Nat) (os : List Op) : Tc := ⟨wd l 0, wd l 2, ad4 l 4, ad4 l 8, g8 l 13, wd l 14, wd l 18, os, l.drop k⟩
structure ReadT (w w' : World) (body : List UInt8) (Ab : Option Addr) (cb : Nat) : Prop where
  len : body.length ≤ cb
  cap : cb ≤ 9223372036854775807
  nil : Ab = none → cb = 0
  bs : BsF w' w.heap.size w'.heap.size Ab body
  below : Below w.heap.size w w'

theorem tword_x (A : Option Addr) (n c : Nat) (l : List UInt8) (w Y : World) (hn : l.length = n) (h : Bs w w.heap.size A l) (k : Nat) (ki : Int) (hki : ki = (k : Int)) (hk : k + 1 < n) (hn2 : n ≤ 16777216) (y : Below (w.heap.size + 1) (Zt w) Y) :
    Calls Try.prog 49 #[.slice A n c, .int .i64 ki] Y fun e w' => e = .returned (.int .u16 (wd l k)) ∧ Below (w.heap.size + 1) (Zt w) w' :=
  (tword A n c l w.heap.size Y hn (h.below (Zt.below y)) k ki hki hk hn2).mono fun _ _ ⟨a, m, b⟩ => ⟨a, b ▸ below_dn y m⟩
theorem tlong_x (A : Option Addr) (n c : Nat) (l : List UInt8) (w Y : World) (hn : l.length = n) (h : Bs w w.heap.size A l) (k : Nat) (ki : Int) (hki : ki = (k : Int)) (hk : k + 3 < n) (hn2 : n ≤ 16777216) (y : Below (w.heap.size + 1) (Zt w) Y) :
    Calls Try.prog 50 #[.slice A n c, .int .i64 ki] Y fun e w' => e = .returned (.int .u32 (ad4 l k)) ∧ Below (w.heap.size + 1) (Zt w) w' :=
  (tlong A n c l w.heap.size Y hn (h.below (Zt.below y)) k ki hki hk hn2).mono fun _ _ ⟨a, m, b⟩ => ⟨a, b ▸ below_dn y m⟩

set_option maxRecDepth 100000 in
set_option maxHeartbeats 8000000 in
theorem tread (A : Option Addr) (n c : Nat) (l : List UInt8) (w : World) (hn : l.length = n) (h : Bs w w.heap.size A l) (hn2 : n ≤ 16777216) (h20 : 20 ≤ n) (hnc : n ≤ c) (hc63 : c ≤ 9223372036854775807) (k : Nat) (hk0 : 20 ≤ k) (hk : k ≤ n) (os : List Op) (Ao : Option Addr) (no co : Nat) (hno : os.length = no) :
    Calls Try.prog 35 #[.slice A n c, .int .i64 k, .slice Ao no co] w fun e w' => ∃ Ab cb, e = .returned (tcV (rdT l k os) Ao co Ab cb) ∧ ReadT w w' (l.drop k) Ab cb := by
  obtain ⟨ad, rfl, hlt, hcell⟩ := g8_cells h (by omega)
  have c13 : w.cell? ⟨ad.block, ad.off + 13, none⟩ = some (.int .u8 (g8 l 13)) := by have := hcell 13 (by omega); rwa [add_pos ad 13 (by omega)] at this
  clear hcell
  have HL := Go.Lib.hid h
  have HN := Go.Lib.hid hn
  have HNO := Go.Lib.hid hno
  have g0 := g8_lo l 13
  have g1 := g8_hi l 13
  have hkk : l.drop k = l.drop k := rfl
  have HDB : Hid (Bs w w.heap.size (if c = k then (some ad : Option Addr) else some (ad.add k)) (l.drop k)) := Go.Lib.hid (by rw [add_pos ad k (by omega)]; exact h.cut k c (by omega) (by omega))
  have HDN : Hid ((if c = k then (some ad : Option Addr) else some (ad.add k)) = none → c - k = 0) := Go.Lib.hid (fun h => by split at h <;> cases h)
  have HDL : Hid ((l.drop k).length = n - k) := Go.Lib.hid (by rw [List.length_drop, hn])
  have K13 : ∀ Y, Below w.heap.size w Y → Y.cell? ⟨ad.block, ad.off + 13, none⟩ = some (.int .u8 (g8 l 13)) ∧ Below w.heap.size w Y := fun Y y => ⟨(y.cell (p := ⟨ad.block, ad.off + 13, none⟩) hlt).trans c13, y⟩
  have i13 : (13 : Int) < (n : Int) := by omega
  have i1 : (k : Int) ≤ (n : Int) := by omega
  have i2 : (k : Int) ≤ (c : Int) := by omega
  have i3 : (0 : Int) ≤ (k : Int) := by omega
  have r13 := IntWalk.i64_in (g8 l 13) (by omega)
  have r0 := IntWalk.i64_in (wd l 0) (by have := wd_lo l 0; have := wd_hi l 0; omega)
  have r2 := IntWalk.i64_in (wd l 2) (by have := wd_lo l 2; have := wd_hi l 2; omega)
  have r14 := IntWalk.i64_in (wd l 14) (by have := wd_lo l 14; have := wd_hi l 14; omega)
  have r18 := IntWalk.i64_in (wd l 18) (by have := wd_lo l 18; have := wd_hi l 18; omega)
  clear hn h hno hkk g0 g1
  go_enter Try.func35, Try.ntmps35
  go_upto_region 1 with fail
  have x0 : Below (w.heap.size + 1) (Zt w) (Zt w) := Below.refl _ _
  have c13' := (K13 _ (Zt.below x0)).1
  refine wp_region_held_drew (S := (fun Y => Y.cell? ⟨ad.block, ad.off + 13, none⟩ = some (.int .u8 (g8 l 13)) ∧ Below w.heap.size w Y)) (by kernel_rfl) ?_ (fun hHeld => ?_)
  · exact K13 _ (Zt.below (below_drew x0))
  refine wpAnyH_take (i := 0) (oi := ⟨some 7, _, _, _, _, _⟩) (v := ?_) rfl (by kernel_rfl) (by kernel_rfl) (by kernel_rfl) (fun _ _ _ h => h) (Or.inl ⟨by rfl, ?_⟩) (by assumption) ?_
  rotate_left
  · intro w hSw; (try dsimp only at hSw); go_simp; (try with_reducible rfl)
  try simp only [Act.put, List.setIfInBounds_toArray, List.set_cons_zero, List.set_cons_succ]
  refine wpAnyH_take (i := 3) (oi := ⟨some 10, _, _, _, _, _⟩) (v := ?_) rfl (by kernel_rfl) (by kernel_rfl) (by kernel_rfl) (fun _ _ _ h => h) (Or.inl ⟨by rfl, ?_⟩) (by assumption) ?_
  rotate_left
  · intro w hSw; (try dsimp only at hSw); go_simp; (try with_reducible rfl)
  try simp only [Act.put, List.setIfInBounds_toArray, List.set_cons_zero, List.set_cons_succ]
  refine wpAnyH_take (i := 6) (oi := ⟨some 13, _, _, _, _, _⟩) (v := ?_) rfl (by kernel_rfl) (by kernel_rfl) (by kernel_rfl) (fun _ _ _ h => h) (Or.inl ⟨by rfl, ?_⟩) (by assumption) ?_
  rotate_left
  · intro w hSw; (try dsimp only at hSw); go_simp; (try with_reducible rfl)
  try simp only [Act.put, List.setIfInBounds_toArray, List.set_cons_zero, List.set_cons_succ]
  refine wpAnyH_take (i := 8) (oi := ⟨some 15, _, _, _, _, _⟩) (v := ?_) rfl (by kernel_rfl) (by kernel_rfl) (by kernel_rfl) (fun _ _ _ h => h) (Or.inl ⟨by rfl, ?_⟩) (by assumption) ?_
  rotate_left
  · intro w hSw; (try dsimp only at hSw); go_simp; (try with_reducible rfl)
  try simp only [Act.put, List.setIfInBounds_toArray, List.set_cons_zero, List.set_cons_succ]
  refine wpAnyH_take (i := 10) (oi := ⟨some 17, _, _, _, _, _⟩) (v := ?_) rfl (by kernel_rfl) (by kernel_rfl) (by kernel_rfl) (fun _ _ _ h => h) (Or.inl ⟨by rfl, ?_⟩) (by assumption) ?_
  rotate_left
  · intro w hSw; (try dsimp only at hSw); go_simp; (try with_reducible rfl)
  try simp only [Act.put, List.setIfInBounds_toArray, List.set_cons_zero, List.set_cons_succ]
  refine wpAnyH_take (i := 11) (oi := ⟨some 18, _, _, _, _, _⟩) (v := ?_) rfl (by kernel_rfl) (by kernel_rfl) (by kernel_rfl) (fun _ _ _ h => h) (Or.inl ⟨by rfl, ?_⟩) (by assumption) ?_
  rotate_left
  · intro w hSw; (try dsimp only at hSw); go_simp; (try with_reducible rfl)
  try simp only [Act.put, List.setIfInBounds_toArray, List.set_cons_zero, List.set_cons_succ]
  refine wpAnyH_take (i := 12) (oi := ⟨some 19, _, _, _, _, _⟩) (v := ?_) rfl (by kernel_rfl) (by kernel_rfl) (by kernel_rfl) (fun _ _ _ h => h) (Or.inl ⟨by rfl, ?_⟩) (by assumption) ?_
  rotate_left
  · intro w hSw; (try dsimp only at hSw); go_simp; (try with_reducible rfl)
  try simp only [Act.put, List.setIfInBounds_toArray, List.set_cons_zero, List.set_cons_succ]
  refine wpAnyH_take (i := 13) (oi := ⟨some 20, _, _, _, _, _⟩) (v := ?_) rfl (by kernel_rfl) (by kernel_rfl) (by kernel_rfl) (fun _ _ _ h => h) (Or.inl ⟨by rfl, ?_⟩) (by assumption) ?_
  rotate_left
  · intro w hSw; (try dsimp only at hSw); go_simp; (try with_reducible rfl)
  try simp only [Act.put, List.setIfInBounds_toArray, List.set_cons_zero, List.set_cons_succ]
  refine wpAnyH_take (i := 14) (oi := ⟨some 21, _, _, _, _, _⟩) (v := ?_) rfl (by kernel_rfl) (by kernel_rfl) (by kernel_rfl) (fun _ _ _ h => h) (Or.inl ⟨by rfl, ?_⟩) (by assumption) ?_
  rotate_left
  · intro w hSw; (try dsimp only at hSw); go_simp; (try with_reducible rfl)
  try simp only [Act.put, List.setIfInBounds_toArray, List.set_cons_zero, List.set_cons_succ]
  refine wpAnyH_take (i := 17) (oi := ⟨some 24, _, _, _, _, _⟩) (v := ?_) rfl (by kernel_rfl) (by kernel_rfl) (by kernel_rfl) (fun _ _ _ h => h) (Or.inl ⟨by rfl, ?_⟩) (by assumption) ?_
  rotate_left
  · intro w hSw; (try dsimp only at hSw); go_simp; (try with_reducible rfl)
  try simp only [Act.put, List.setIfInBounds_toArray, List.set_cons_zero, List.set_cons_succ]
  refine wpAnyH_take (i := 20) (oi := ⟨some 27, _, _, _, _, _⟩) (v := ?_) rfl (by kernel_rfl) (by kernel_rfl) (by kernel_rfl) (fun _ _ _ h => h) (Or.inl ⟨by rfl, ?_⟩) (by assumption) ?_
  rotate_left
  · intro w hSw; (try dsimp only at hSw); go_simp; (try with_reducible rfl)
  try simp only [Act.put, List.setIfInBounds_toArray, List.set_cons_zero, List.set_cons_succ]
  refine wpAnyH_take (i := 21) (oi := ⟨some 28, _, _, _, _, _⟩) (v := ?_) rfl (by kernel_rfl) (by kernel_rfl) (by kernel_rfl) (fun _ _ _ h => h) (Or.inl ⟨by rfl, ?_⟩) (by assumption) ?_
  rotate_left
  · intro w hSw; (try dsimp only at hSw); go_simp; (try with_reducible rfl)
  try simp only [Act.put, List.setIfInBounds_toArray, List.set_cons_zero, List.set_cons_succ]
  refine wpAnyH_take (i := 22) (oi := ⟨some 29, _, _, _, _, _⟩) (v := ?_) rfl (by kernel_rfl) (by kernel_rfl) (by kernel_rfl) (fun _ _ _ h => h) (Or.inl ⟨by rfl, ?_⟩) (by assumption) ?_
  rotate_left
  · intro w hSw; (try dsimp only at hSw); go_simp; (try with_reducible rfl)
  try simp only [Act.put, List.setIfInBounds_toArray, List.set_cons_zero, List.set_cons_succ]
  refine wpAnyH_take (i := 23) (oi := ⟨some 30, _, _, _, _, _⟩) (v := ?_) rfl (by kernel_rfl) (by kernel_rfl) (by kernel_rfl) (fun _ _ _ h => h) (Or.inl ⟨by rfl, ?_⟩) (by assumption) ?_
  rotate_left
  · intro w hSw; (try dsimp only at hSw); go_simp; (try with_reducible rfl)
  try simp only [Act.put, List.setIfInBounds_toArray, List.set_cons_zero, List.set_cons_succ]
  refine wpAnyH_ready (rs := [1]) (by kernel_rfl) (by simp) (AllReadyH.cons (o := ⟨some 8, _, _, _, _, _⟩) rfl (fun Kc hKc => ?_) AllReadyH.nil)
  go_simp
  go_at_call 49; refine (tword_x (some ad) n c l w _ HN.out HL.out 0 0 rfl (by omega) hn2 (below_drew x0)).mono ?_; rintro e v1 ⟨rfl, x1⟩
  clear hHeld
  refine hKc.out _ _ ?_ (fun hHeld => ?_)
  · (try dsimp only); exact K13 _ (Zt.below x1)
  clear hKc Kc
  try simp only [Act.put, List.setIfInBounds_toArray, List.set_cons_zero, List.set_cons_succ]
  refine wpAnyH_take (i := 2) (oi := ⟨some 9, _, _, _, _, _⟩) (v := ?_) rfl (by kernel_rfl) (by kernel_rfl) (by kernel_rfl) (fun _ _ _ h => h) (Or.inl ⟨by rfl, ?_⟩) (by assumption) ?_
  rotate_left
  · intro w hSw; (try dsimp only at hSw); go_simp; (try with_reducible rfl)
  try simp only [Act.put, List.setIfInBounds_toArray, List.set_cons_zero, List.set_cons_succ]
  refine wpAnyH_ready (rs := [4]) (by kernel_rfl) (by simp) (AllReadyH.cons (o := ⟨some 11, _, _, _, _, _⟩) rfl (fun Kc hKc => ?_) AllReadyH.nil)
  go_simp
  go_at_call 49; refine (tword_x (some ad) n c l w _ HN.out HL.out 2 2 rfl (by omega) hn2 x1).mono ?_; rintro e v2 ⟨rfl, x2⟩
  clear hHeld
  refine hKc.out _ _ ?_ (fun hHeld => ?_)
  · (try dsimp only); exact K13 _ (Zt.below x2)
  clear hKc Kc
  try simp only [Act.put, List.setIfInBounds_toArray, List.set_cons_zero, List.set_cons_succ]
  refine wpAnyH_take (i := 5) (oi := ⟨some 12, _, _, _, _, _⟩) (v := ?_) rfl (by kernel_rfl) (by kernel_rfl) (by kernel_rfl) (fun _ _ _ h => h) (Or.inl ⟨by rfl, ?_⟩) (by assumption) ?_
  rotate_left
  · intro w hSw; (try dsimp only at hSw); go_simp; (try with_reducible rfl)
  try simp only [Act.put, List.setIfInBounds_toArray, List.set_cons_zero, List.set_cons_succ]
  refine wpAnyH_ready (rs := [7]) (by kernel_rfl) (by simp) (AllReadyH.cons (o := ⟨some 14, _, _, _, _, _⟩) rfl (fun Kc hKc => ?_) AllReadyH.nil)
  go_simp
  go_at_call 50; refine (tlong_x (some ad) n c l w _ HN.out HL.out 4 4 rfl (by omega) hn2 x2).mono ?_; rintro e v3 ⟨rfl, x3⟩
  clear hHeld
  refine hKc.out _ _ ?_ (fun hHeld => ?_)
  · (try dsimp only); exact K13 _ (Zt.below x3)
  clear hKc Kc
  try simp only [Act.put, List.setIfInBounds_toArray, List.set_cons_zero, List.set_cons_succ]
  refine wpAnyH_ready (rs := [9]) (by kernel_rfl) (by simp) (AllReadyH.cons (o := ⟨some 16, _, _, _, _, _⟩) rfl (fun Kc hKc => ?_) AllReadyH.nil)
  go_simp
  go_at_call 50; refine (tlong_x (some ad) n c l w _ HN.out HL.out 8 8 rfl (by omega) hn2 x3).mono ?_; rintro e v4 ⟨rfl, x4⟩
  clear hHeld
  refine hKc.out _ _ ?_ (fun hHeld => ?_)
  · (try dsimp only); exact K13 _ (Zt.below x4)
  clear hKc Kc
  try simp only [Act.put, List.setIfInBounds_toArray, List.set_cons_zero, List.set_cons_succ]
  refine wpAnyH_ready (rs := [15]) (by kernel_rfl) (by simp) (AllReadyH.cons (o := ⟨some 22, _, _, _, _, _⟩) rfl (fun Kc hKc => ?_) AllReadyH.nil)
  go_simp
  go_at_call 49; refine (tword_x (some ad) n c l w _ HN.out HL.out 14 14 rfl (by omega) hn2 x4).mono ?_; rintro e v5 ⟨rfl, x5⟩
  clear hHeld
  refine hKc.out _ _ ?_ (fun hHeld => ?_)
  · (try dsimp only); exact K13 _ (Zt.below x5)
  clear hKc Kc
  try simp only [Act.put, List.setIfInBounds_toArray, List.set_cons_zero, List.set_cons_succ]
  refine wpAnyH_take (i := 16) (oi := ⟨some 23, _, _, _, _, _⟩) (v := ?_) rfl (by kernel_rfl) (by kernel_rfl) (by kernel_rfl) (fun _ _ _ h => h) (Or.inl ⟨by rfl, ?_⟩) (by assumption) ?_
  rotate_left
  · intro w hSw; (try dsimp only at hSw); go_simp; (try with_reducible rfl)
  try simp only [Act.put, List.setIfInBounds_toArray, List.set_cons_zero, List.set_cons_succ]
  refine wpAnyH_ready (rs := [18]) (by kernel_rfl) (by simp) (AllReadyH.cons (o := ⟨some 25, _, _, _, _, _⟩) rfl (fun Kc hKc => ?_) AllReadyH.nil)
  go_simp
  go_at_call 49; refine (tword_x (some ad) n c l w _ HN.out HL.out 18 18 rfl (by omega) hn2 x5).mono ?_; rintro e v6 ⟨rfl, x6⟩
  clear hHeld
  refine hKc.out _ _ ?_ (fun hHeld => ?_)
  · (try dsimp only); exact K13 _ (Zt.below x6)
  clear hKc Kc
  try simp only [Act.put, List.setIfInBounds_toArray, List.set_cons_zero, List.set_cons_succ]
  refine wpAnyH_take (i := 19) (oi := ⟨some 26, _, _, _, _, _⟩) (v := ?_) rfl (by kernel_rfl) (by kernel_rfl) (by kernel_rfl) (fun _ _ _ h => h) (Or.inl ⟨by rfl, ?_⟩) (by assumption) ?_
  rotate_left
  · intro w hSw; (try dsimp only at hSw); go_simp; (try with_reducible rfl)
  try simp only [Act.put, List.setIfInBounds_toArray, List.set_cons_zero, List.set_cons_succ]
  refine wpAnyH_ready (rs := [24]) (by kernel_rfl) (by simp) (AllReadyH.cons (o := ⟨some 31, _, _, _, _, _⟩) rfl (fun Kc hKc => ?_) AllReadyH.nil)
  go_simp
  go_at_call 32; refine (cclone _ (n - k) (c - k) (l.drop k) w.heap.size _ HDL.out (HDB.out.below (Zt.below x6)) (Zt.below x6).size (by omega) HDN.out (by omega)).mono ?_; rintro e w3 ⟨Ab, cb, rfl, hg3⟩; have x7 : Below (w.heap.size + 1) (Zt w) w3 := x6.trans (hg3.below.mono (Zt.size x6)); obtain ⟨⟨z0, z1, z2, z3, z4, z5, z6, z7, z8⟩, zf⟩ := zt_of x7
  clear hHeld
  refine hKc.out _ _ ?_ (fun hHeld => ?_)
  · (try dsimp only); exact K13 _ (Zt.below x7)
  clear hKc Kc
  try simp only [Act.put, List.setIfInBounds_toArray, List.set_cons_zero, List.set_cons_succ]
  refine wpAnyH_take (i := 25) (oi := ⟨some 32, _, _, _, _, _⟩) (v := ?_) rfl (by kernel_rfl) (by kernel_rfl) (by kernel_rfl) (fun _ _ _ h => h) (Or.inl ⟨by rfl, ?_⟩) (by assumption) ?_
  rotate_left
  · intro w hSw; (try dsimp only at hSw); go_simp; (try with_reducible rfl)
  try simp only [Act.put, List.setIfInBounds_toArray, List.set_cons_zero, List.set_cons_succ]
  refine wpAnyH_ready (rs := [26]) (by kernel_rfl) (by simp) (AllReadyH.cons (o := ⟨none, _, _, _, _, _⟩) rfl (fun Kc hKc => ?_) AllReadyH.nil)
  go_simp
  have yF := below_s9 (Zt.below x7) (Nat.le_refl _) (.int .i64 (wd l 0)) (.int .i64 (wd l 2)) (.int .u32 (ad4 l 4)) (.int .u32 (ad4 l 8)) (.int .i64 (g8 l 13)) (.int .i64 (wd l 14)) (.int .i64 (wd l 18)) (.slice Ao no co) (.slice Ab (n - k) cb)
  clear hHeld
  refine hKc.out _ _ ?_ (fun hHeld => ?_)
  · (try dsimp only); exact K13 _ yF
  clear hKc Kc
  try simp only [Act.put, List.setIfInBounds_toArray, List.set_cons_zero, List.set_cons_succ]
  refine wpAnyH_done (by kernel_rfl) ?_ _
  have HV : (.agg #[.int .i64 (wd l 0), .int .i64 (wd l 2), .int .u32 (ad4 l 4), .int .u32 (ad4 l 8), .int .i64 (g8 l 13), .int .i64 (wd l 14), .int .i64 (wd l 18), .slice Ao no co, .slice Ab (n - k) cb] : Value) = tcV (rdT l k os) Ao co Ab cb := by
    have e1 := HDL.out
    have e2 := HNO.out
    rw [← e1, ← e2]
    rfl
  have HV' := Go.Lib.hid HV
  clear HV
  have HG : Hid (ReadT w (set9 w3 w.heap.size (.int .i64 (wd l 0)) (.int .i64 (wd l 2)) (.int .u32 (ad4 l 4)) (.int .u32 (ad4 l 8)) (.int .i64 (g8 l 13)) (.int .i64 (wd l 14)) (.int .i64 (wd l 18)) (.slice Ao no co) (.slice Ab (n - k) cb)) (l.drop k) Ab cb) := by
    have s6 := Zt.size x6
    have hf : BsF w3 (w.heap.size + 1) w3.heap.size Ab (l.drop k) := BsF.of hg3.bs (fun _ ad e => Nat.le_trans s6 (hg3.fresh ad e))
    refine Go.Lib.hid ⟨hg3.len, hg3.cap, hg3.nil, ?_, yF⟩
    rw [size_s9]
    exact (hf.set9 (Nat.lt_succ_self _) _ _ _ _ _ _ _ _ _).lower (Nat.le_succ _)
  clear hg3 yF x7 x6 x5 x4 x3 x2 x1 x0 hHeld
  go_wp2
  all_goals
    refine bodyPost_ret (v := tcV (rdT l k os) Ao co Ab cb) ?_ rfl ⟨Ab, cb, rfl, HG.out⟩
    rw [← HV'.out]
    simp [results, Try.results35, go_sem, z0, z1, z2, z3, z4, z5, z6, z7, z8]
end Go.Proofs.Ytghgemmbbedopaa
