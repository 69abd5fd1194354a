/- Lemmas, several texts in one. -/
import Derived.Test.YtmgkkgpdnopeaaaQ11
import Derived.Test.YtmgkkgpdnopeaaaQ12
import Derived.Test.YtmgkkgpdnopeaaaQ02
/- The contract of the document's own Parse of segments, where the head and the sum are right. -/
namespace Go.Proofs.Ytmgkkgpdnopeaaa
open Go.ChangeShapes Go.WideShapes Go.ChangeAt Go.RowKit
set_option linter.unusedVariables false
set_option linter.unusedSimpArgs false

theorem wd_part (l : List UInt8) (a b : Nat) (h : a + 2 = b) (hl : b ≤ l.length) : wd ((l.take b).drop a) 0 = wd l a := by
  have h0 : g8 ((l.take b).drop a) 0 = g8 l a := by rw [g8_at _ 0 (by rw [List.length_drop, List.length_take]; omega), g8_at l a (by omega)]; simp
  have h1 : g8 ((l.take b).drop a) (0 + 1) = g8 l (a + 1) := by rw [g8_at _ 1 (by rw [List.length_drop, List.length_take]; omega), g8_at l (a + 1) (by omega)]; simp
  unfold wd
  rw [h0, h1]
theorem ad_part (l : List UInt8) (a b : Nat) (h : a + 4 = b) (hl : b ≤ l.length) : ad4 ((l.take b).drop a) 0 = ad4 l a := by
  have e : ∀ i, i < 4 → g8 ((l.take b).drop a) i = g8 l (a + i) := fun i hi => by rw [g8_at _ i (by rw [List.length_drop, List.length_take]; omega), g8_at l (a + i) (by omega)]; simp
  unfold ad4 wd
  simp only [Nat.reduceAdd]
  rw [e 0 (by omega), e 1 (by omega), e 2 (by omega), e 3 (by omega)]
  simp only [Nat.add_zero, Nat.add_assoc, Nat.reduceAdd]

/-- the segment as far as it is read: its numbers and some options. -/
def tq (l : List UInt8) (os : List Op) : Tc := ⟨wd l 0, wd l 2, ad4 l 4, ad4 l 8, g8 l 13, wd l 14, wd l 18, os, []⟩
/-- the box of a segment that is being read. -/
structure Bq (l : List UInt8) (g : Nat) (wx : World) (acc : List Op) (Ao : Option Addr) (co : Nat) : Prop where
  lt : g < wx.heap.size
  cells : tcIs wx g (tq l acc) Ao co none 0
  fz : ∀ o, wx.frozen? ⟨g, o, none⟩ = false
theorem Bq.keep {l : List UInt8} {g : Nat} {wx wy : World} {acc : List Op} {Ao : Option Addr} {co : Nat} (h : Bq l g wx acc Ao co) (hb : Below wx.heap.size wx wy) : Bq l g wy acc Ao co :=
  ⟨Nat.lt_of_lt_of_le h.lt hb.size, h.cells.keep hb h.lt, fun o => ((bcell hb).2 g o h.lt).trans (h.fz o)⟩
theorem Bq.keepB {l : List UInt8} {g B : Nat} {wx wy : World} {acc : List Op} {Ao : Option Addr} {co : Nat} (h : Bq l g wx acc Ao co) (hb : Below B wx wy) (hg : g < B) : Bq l g wy acc Ao co :=
  ⟨Nat.lt_of_lt_of_le h.lt hb.size, h.cells.keep hb hg, fun o => (hb.frozen (p := ⟨g, o, none⟩) hg).trans (h.fz o)⟩
theorem Bq.put {l : List UInt8} {g : Nat} {wx : World} {acc : List Op} {Ao : Option Addr} {co : Nat} (h : Bq l g wx acc Ao co) (acc' : List Op) (Ao' : Option Addr) (co' : Nat) : Bq l g (wx.setCell ⟨g, 7, none⟩ (.slice Ao' acc'.length co')) acc' Ao' co' := by
  obtain ⟨c0, c1, c2, c3, c4, c5, c6, c7, c8⟩ := h.cells.cells
  have o : ∀ (j : Nat) (v : Value), j ≠ 7 → wx.cell? ⟨g, j, none⟩ = some v → (wx.setCell ⟨g, 7, none⟩ (.slice Ao' acc'.length co')).cell? ⟨g, j, none⟩ = some v := fun j v hj hv => by
    rw [World.cell?_setCell_other wx _ _ _ (fun e => hj (by injection e with _ e; omega))]; exact hv
  exact ⟨by simpa using h.lt, ⟨o 0 _ (by decide) c0, o 1 _ (by decide) c1, o 2 _ (by decide) c2, o 3 _ (by decide) c3, o 4 _ (by decide) c4, o 5 _ (by decide) c5, o 6 _ (by decide) c6, World.cell?_setCell_same wx _ _ c7, o 8 _ (by decide) c8⟩, fun j => by rw [World.frozen?_setCell]; exact h.fz j⟩
/-- a row of options stays where a block below it is written. -/
theorem ORow.under {w : World} {base : Nat} {v : Value} {os : List Op} (h : ORow w base v os) {g : Nat} (hg : g < base) (k : Nat) (u : Value) : ORow (w.setCell ⟨g, k, none⟩ u) base v os := by
  obtain ⟨xs, h1, h2⟩ := h.ex
  refine ⟨xs, ownsRow_setCell_below h1 hg u, fun j o hj => ?_⟩
  obtain ⟨kk, Ad, cd, d1, d2, d3, d4, d5, d6⟩ := h2 j o hj
  refine ⟨kk, Ad, cd, d1, ?_, d3, d4, d5, d6⟩
  have := (BsF.of d2 (fun hn ad e => (d6 hn ad e).2)).set hg k u
  rw [World.size_setCell]
  exact this.bs
/-- behind one option more. -/
def NextQ (l : List UInt8) (g : Nat) (x : Int) (dat : List UInt8) (acc : List Op) (w wx : World) : Prop := ∃ A c, Bq l g wx (acc ++ [⟨x, dat⟩]) A c ∧ ORow wx (g + 1) (.slice A (acc ++ [(⟨x, dat⟩ : Op)]).length c) (acc ++ [⟨x, dat⟩]) ∧ Below (w.heap.size + 1) (Zt w) wx
theorem g8_taken (l : List UInt8) (k q : Nat) (hq : q < k) (hk : k ≤ l.length) : g8 (l.take k) q = g8 l q := by
  rw [g8_at _ q (by rw [List.length_take]; omega), g8_at l q (by omega), List.getElem_take]

set_option maxRecDepth 100000 in
set_option maxHeartbeats 16000000 in
theorem rparseTB (src dst : Int) (A : Option Addr) (n c : Nat) (l : List UInt8) (w : World) (hs : 0 ≤ src ∧ src ≤ 4294967295) (hd : 0 ≤ dst ∧ dst ≤ 4294967295) (hn : l.length = n) (h : Bs w w.heap.size A l) (hn2 : n ≤ 16777216) (hnc : n ≤ c) (hc63 : c ≤ 9223372036854775807) (hM : tmE l = 0) (hS : sumT 6 src dst l = 65535) :
    Calls Try.prog 24 #[.int .u32 src, .int .u32 dst, .slice A n c] w (ParsT w (prsT src dst l)) := by
  obtain ⟨i0, hi, hz0, hz1, hz2⟩ := info_parts info_byte
  obtain ⟨m1, m2, m3, m4, m5⟩ := tmE_ok hM
  obtain ⟨ad, rfl, hlt, hcell⟩ := g8_cells h (by omega)
  have c12 : w.cell? ⟨ad.block, ad.off + 12, none⟩ = some (.int .u8 (g8 l 12)) := by have := hcell 12 (by omega); rwa [add_pos ad 12 (by omega)] at this
  have c13 : w.cell? ⟨ad.block, ad.off + 13, none⟩ = some (.int .u8 (g8 l 13)) := by have := hcell 13 (by omega); rwa [add_pos ad 13 (by omega)] at this
  clear hcell
  obtain ⟨k, hk⟩ : ∃ k : Nat, (k : Int) = tsz l := ⟨(tsz l).toNat, by omega⟩
  have HP := Go.Lib.hid (prsT_C hM hS hk)
  have E8 : g8 l 12 / 16 * 4 = (k : Int) := by rw [hk]; rfl
  have q0 := g8_lo l 12
  have q1 := g8_hi l 12
  have r0 := g8_lo l 13
  have r1 := g8_hi l 13
  have HS := Go.Lib.hid hS
  have HN := Go.Lib.hid hn
  have HB := Go.Lib.hid h
  have n65 : n ≤ 65535 := by omega
  have n20 : 20 ≤ n := by omega
  have k20 : 20 ≤ k := by omega
  have k60 : k ≤ 60 := by omega
  have kn : k ≤ n := by omega
  have hne : ad.block ≠ w.heap.size := by omega
  have HW0 : Hid (wd (l.take 2) 0 = wd l 0) := Go.Lib.hid (by have := wd_part l 0 2 rfl (by omega); simpa using this)
  have HW2 : Hid (wd ((l.take 4).drop 2) 0 = wd l 2) := Go.Lib.hid (wd_part l 2 4 rfl (by omega))
  have HW4 : Hid (ad4 ((l.take 8).drop 4) 0 = ad4 l 4) := Go.Lib.hid (ad_part l 4 8 rfl (by omega))
  have HW8 : Hid (ad4 ((l.take 12).drop 8) 0 = ad4 l 8) := Go.Lib.hid (ad_part l 8 12 rfl (by omega))
  have HW14 : Hid (wd ((l.take 16).drop 14) 0 = wd l 14) := Go.Lib.hid (wd_part l 14 16 rfl (by omega))
  have HW18 : Hid (wd ((l.take 20).drop 18) 0 = wd l 18) := Go.Lib.hid (wd_part l 18 20 rfl (by omega))
  have HL0 : Hid ((l.take 2).length = 2) := Go.Lib.hid (by rw [List.length_take]; omega)
  have HL2 : Hid (((l.take 4).drop 2).length = 2) := Go.Lib.hid (by rw [List.length_drop, List.length_take]; omega)
  have HL4 : Hid (((l.take 8).drop 4).length = 4) := Go.Lib.hid (by rw [List.length_drop, List.length_take]; omega)
  have HL8 : Hid (((l.take 12).drop 8).length = 4) := Go.Lib.hid (by rw [List.length_drop, List.length_take]; omega)
  have HL14 : Hid (((l.take 16).drop 14).length = 2) := Go.Lib.hid (by rw [List.length_drop, List.length_take]; omega)
  have HL18 : Hid (((l.take 20).drop 18).length = 2) := Go.Lib.hid (by rw [List.length_drop, List.length_take]; omega)
  clear hM h hS m1 m2 m3 m4 m5 hk hn
  have i12 : (12 : Int) < (n : Int) := by omega
  have i13 : (13 : Int) < (n : Int) := by omega
  have i2 : (2 : Int) ≤ (c : Int) := by omega
  have i4 : (4 : Int) ≤ (c : Int) := by omega
  have i8 : (8 : Int) ≤ (c : Int) := by omega
  have i12c : (12 : Int) ≤ (c : Int) := by omega
  have i16 : (16 : Int) ≤ (c : Int) := by omega
  have i20 : (20 : Int) ≤ (c : Int) := by omega
  have x0 : Below (w.heap.size + 1) (Zt w) (Zt w) := Below.refl _ _
  have X0 := Go.Lib.hid x0
  clear x0
  go_enter Try.func24, Try.ntmps24
  generalize g8 l 12 = x at *
  go_wp2_with fail
  refine (rsumT_n src dst (some ad) n c l w.heap.size _ 65535 HS.out hs hd HN.out (HB.out.below (Zt.below X0.out)) (Zt.below X0.out).size hn2 hnc).mono ?_
  rintro e w1 ⟨rfl, hb1⟩
  dsimp only
  have x1 : Below (w.heap.size + 1) (Zt w) w1 := X0.out.trans (hb1.mono (by simp))
  have X1 := Go.Lib.hid x1
  have K : ∀ Y, Below (w.heap.size + 1) (Zt w) Y → Y.cell? ⟨ad.block, ad.off + 13, none⟩ = some (.int .u8 (g8 l 13)) ∧ Below (w.heap.size + 1) (Zt w) Y := fun Y y => ⟨((Zt.below y).cell (p := ⟨ad.block, ad.off + 13, none⟩) hlt).trans c13, y⟩
  have r13 := IntWalk.i64_in (g8 l 13) (by omega)
  have u4 := IntWalk.u32_in (ad4 l 4) (by have := ad4_lo l 4; have := ad4_hi l 4; omega)
  have u8 := IntWalk.u32_in (ad4 l 8) (by have := ad4_lo l 8; have := ad4_hi l 8; omega)
  clear hb1 x1 c12 q0 q1 i12
  have XA : Hid (Below (w.heap.size + 1) (Zt w) (w1.drew.alloc (.cells #[.int .i64 0, .int .i64 0, .int .u32 0, .int .u32 0, .int .i64 0, .int .i64 0, .int .i64 0, .slice none 0 0, .slice none 0 0] 54))) := Go.Lib.hid ((below_drew X1.out).alloc (Zt.size (below_drew X1.out)) _)
  have XB : Hid (Below (w.heap.size + 1) (Zt w) (w1.drew.alloc (.cells #[.int .i64 (wd l 0), .int .i64 (wd l 2), .int .u32 (ad4 l 4), .int .u32 (ad4 l 8), .int .i64 (g8 l 13), .int .i64 (wd l 14), .int .i64 (wd l 18), .slice none 0 0, .slice none 0 0] 54))) := Go.Lib.hid ((below_drew X1.out).alloc (Zt.size (below_drew X1.out)) _)
  go_upto_region 10 with fail
  go_cut [9] (fun s wx => s = .pointer (some ⟨w1.heap.size, 0, none⟩) ∧ wx = (w1.alloc (.cells #[.int .i64 (wd l 0), .int .i64 (wd l 2), .int .u32 (ad4 l 4), .int .u32 (ad4 l 8), .int .i64 (g8 l 13), .int .i64 (wd l 14), .int .i64 (wd l 18), .slice none 0 0, .slice none 0 0] 54)).drew)
  case first =>
    refine wp_region_held_drew (S := (fun Y => Y.cell? ⟨ad.block, ad.off + 13, none⟩ = some (.int .u8 (g8 l 13)) ∧ Below (w.heap.size + 1) (Zt w) Y)) (by kernel_rfl) ?_ (fun hHeld => ?_)
    · exact K _ (below_drew X1.out)
    refine wpAnyH_take (i := 0) (oi := ⟨some 41, _, _, _, _, _⟩) (v := ?_) rfl (by kernel_rfl) (by kernel_rfl) (by kernel_rfl) (fun _ _ _ h => h) (Or.inl ⟨by rfl, ?_⟩) (by assumption) ?_
    rotate_left
    · intro w hSw; (try dsimp only at hSw); go_simp; (try with_reducible rfl)
    try simp only [Act.put, List.setIfInBounds_toArray, List.set_cons_zero, List.set_cons_succ]
    refine wpAnyH_take (i := 1) (oi := ⟨some 42, _, _, _, _, _⟩) (v := ?_) rfl (by kernel_rfl) (by kernel_rfl) (by kernel_rfl) (fun _ _ _ h => h) (Or.inl ⟨by rfl, ?_⟩) (by assumption) ?_
    rotate_left
    · intro w hSw; (try dsimp only at hSw); go_simp; (try with_reducible rfl)
    try simp only [Act.put, List.setIfInBounds_toArray, List.set_cons_zero, List.set_cons_succ]
    refine wpAnyH_take (i := 3) (oi := ⟨some 44, _, _, _, _, _⟩) (v := ?_) rfl (by kernel_rfl) (by kernel_rfl) (by kernel_rfl) (fun _ _ _ h => h) (Or.inl ⟨by rfl, ?_⟩) (by assumption) ?_
    rotate_left
    · intro w hSw; (try dsimp only at hSw); go_simp; (try with_reducible rfl)
    try simp only [Act.put, List.setIfInBounds_toArray, List.set_cons_zero, List.set_cons_succ]
    refine wpAnyH_take (i := 4) (oi := ⟨some 45, _, _, _, _, _⟩) (v := ?_) rfl (by kernel_rfl) (by kernel_rfl) (by kernel_rfl) (fun _ _ _ h => h) (Or.inl ⟨by rfl, ?_⟩) (by assumption) ?_
    rotate_left
    · intro w hSw; (try dsimp only at hSw); go_simp; (try with_reducible rfl)
    try simp only [Act.put, List.setIfInBounds_toArray, List.set_cons_zero, List.set_cons_succ]
    refine wpAnyH_take (i := 6) (oi := ⟨some 47, _, _, _, _, _⟩) (v := ?_) rfl (by kernel_rfl) (by kernel_rfl) (by kernel_rfl) (fun _ _ _ h => h) (Or.inl ⟨by rfl, ?_⟩) (by assumption) ?_
    rotate_left
    · intro w hSw; (try dsimp only at hSw); go_simp; (try with_reducible rfl)
    try simp only [Act.put, List.setIfInBounds_toArray, List.set_cons_zero, List.set_cons_succ]
    refine wpAnyH_take (i := 7) (oi := ⟨some 48, _, _, _, _, _⟩) (v := ?_) rfl (by kernel_rfl) (by kernel_rfl) (by kernel_rfl) (fun _ _ _ h => h) (Or.inl ⟨by rfl, ?_⟩) (by assumption) ?_
    rotate_left
    · intro w hSw; (try dsimp only at hSw); go_simp; (try with_reducible rfl)
    try simp only [Act.put, List.setIfInBounds_toArray, List.set_cons_zero, List.set_cons_succ]
    refine wpAnyH_take (i := 10) (oi := ⟨some 51, _, _, _, _, _⟩) (v := ?_) rfl (by kernel_rfl) (by kernel_rfl) (by kernel_rfl) (fun _ _ _ h => h) (Or.inl ⟨by rfl, ?_⟩) (by assumption) ?_
    rotate_left
    · intro w hSw; (try dsimp only at hSw); go_simp; (try with_reducible rfl)
    try simp only [Act.put, List.setIfInBounds_toArray, List.set_cons_zero, List.set_cons_succ]
    refine wpAnyH_take (i := 11) (oi := ⟨some 52, _, _, _, _, _⟩) (v := ?_) rfl (by kernel_rfl) (by kernel_rfl) (by kernel_rfl) (fun _ _ _ h => h) (Or.inl ⟨by rfl, ?_⟩) (by assumption) ?_
    rotate_left
    · intro w hSw; (try dsimp only at hSw); go_simp; (try with_reducible rfl)
    try simp only [Act.put, List.setIfInBounds_toArray, List.set_cons_zero, List.set_cons_succ]
    refine wpAnyH_take (i := 14) (oi := ⟨some 55, _, _, _, _, _⟩) (v := ?_) rfl (by kernel_rfl) (by kernel_rfl) (by kernel_rfl) (fun _ _ _ h => h) (Or.inl ⟨by rfl, ?_⟩) (by assumption) ?_
    rotate_left
    · intro w hSw; (try dsimp only at hSw); go_simp; (try with_reducible rfl)
    try simp only [Act.put, List.setIfInBounds_toArray, List.set_cons_zero, List.set_cons_succ]
    refine wpAnyH_take (i := 15) (oi := ⟨some 56, _, _, _, _, _⟩) (v := ?_) rfl (by kernel_rfl) (by kernel_rfl) (by kernel_rfl) (fun _ _ _ h => h) (Or.inl ⟨by rfl, ?_⟩) (by assumption) ?_
    rotate_left
    · intro w hSw; (try dsimp only at hSw); go_simp; (try with_reducible rfl)
    try simp only [Act.put, List.setIfInBounds_toArray, List.set_cons_zero, List.set_cons_succ]
    refine wpAnyH_take (i := 16) (oi := ⟨some 57, _, _, _, _, _⟩) (v := ?_) rfl (by kernel_rfl) (by kernel_rfl) (by kernel_rfl) (fun _ _ _ h => h) (Or.inl ⟨by rfl, ?_⟩) (by assumption) ?_
    rotate_left
    · intro w hSw; (try dsimp only at hSw); go_simp; (try with_reducible rfl)
    try simp only [Act.put, List.setIfInBounds_toArray, List.set_cons_zero, List.set_cons_succ]
    refine wpAnyH_take (i := 17) (oi := ⟨some 58, _, _, _, _, _⟩) (v := ?_) rfl (by kernel_rfl) (by kernel_rfl) (by kernel_rfl) (fun _ _ _ h => h) (Or.inl ⟨by rfl, ?_⟩) (by assumption) ?_
    rotate_left
    · intro w hSw; (try dsimp only at hSw); go_simp; (try with_reducible rfl)
    try simp only [Act.put, List.setIfInBounds_toArray, List.set_cons_zero, List.set_cons_succ]
    refine wpAnyH_take (i := 18) (oi := ⟨some 59, _, _, _, _, _⟩) (v := ?_) rfl (by kernel_rfl) (by kernel_rfl) (by kernel_rfl) (fun _ _ _ h => h) (Or.inl ⟨by rfl, ?_⟩) (by assumption) ?_
    rotate_left
    · intro w hSw; (try dsimp only at hSw); go_simp; (try with_reducible rfl)
    try simp only [Act.put, List.setIfInBounds_toArray, List.set_cons_zero, List.set_cons_succ]
    refine wpAnyH_take (i := 19) (oi := ⟨some 60, _, _, _, _, _⟩) (v := ?_) rfl (by kernel_rfl) (by kernel_rfl) (by kernel_rfl) (fun _ _ _ h => h) (Or.inl ⟨by rfl, ?_⟩) (by assumption) ?_
    rotate_left
    · intro w hSw; (try dsimp only at hSw); go_simp; (try with_reducible rfl)
    try simp only [Act.put, List.setIfInBounds_toArray, List.set_cons_zero, List.set_cons_succ]
    refine wpAnyH_take (i := 21) (oi := ⟨some 62, _, _, _, _, _⟩) (v := ?_) rfl (by kernel_rfl) (by kernel_rfl) (by kernel_rfl) (fun _ _ _ h => h) (Or.inl ⟨by rfl, ?_⟩) (by assumption) ?_
    rotate_left
    · intro w hSw; (try dsimp only at hSw); go_simp; (try with_reducible rfl)
    try simp only [Act.put, List.setIfInBounds_toArray, List.set_cons_zero, List.set_cons_succ]
    refine wpAnyH_take (i := 22) (oi := ⟨some 63, _, _, _, _, _⟩) (v := ?_) rfl (by kernel_rfl) (by kernel_rfl) (by kernel_rfl) (fun _ _ _ h => h) (Or.inl ⟨by rfl, ?_⟩) (by assumption) ?_
    rotate_left
    · intro w hSw; (try dsimp only at hSw); go_simp; (try with_reducible rfl)
    try simp only [Act.put, List.setIfInBounds_toArray, List.set_cons_zero, List.set_cons_succ]
    refine wpAnyH_ready (rs := [2, 25]) (by kernel_rfl) (by simp) (AllReadyH.cons (o := ⟨some 43, _, _, _, _, _⟩) rfl (fun Kc hKc => ?_) (AllReadyH.cons (o := ⟨some 9, _, _, _, _, _⟩) rfl (fun Kc hKc => ?_) AllReadyH.nil))
    rotate_left
    ·
      go_simp
      clear hHeld
      refine hKc.out _ _ ?_ (fun hHeld => ?_)
      · (try dsimp only); exact K _ XA.out
      clear hKc Kc
      try simp only [Act.put, List.setIfInBounds_toArray, List.set_cons_zero, List.set_cons_succ]
      refine wpAnyH_ready (rs := [2]) (by kernel_rfl) (by simp) (AllReadyH.cons (o := ⟨some 43, _, _, _, _, _⟩) rfl (fun Kc hKc => ?_) AllReadyH.nil)
      go_simp
      go_at_call 47; refine (rnum2 _ c (l.take 2) w.heap.size _ HL0.out ((HB.out.below (Zt.below XA.out)).take 2)).mono ?_; rw [HW0.out]; rintro e v0 ⟨rfl, rfl⟩
      clear hHeld
      refine hKc.out _ _ ?_ (fun hHeld => ?_)
      · (try dsimp only); exact K _ XA.out
      clear hKc Kc
      try simp only [Act.put, List.setIfInBounds_toArray, List.set_cons_zero, List.set_cons_succ]
      refine wpAnyH_ready (rs := [5]) (by kernel_rfl) (by simp) (AllReadyH.cons (o := ⟨some 46, _, _, _, _, _⟩) rfl (fun Kc hKc => ?_) AllReadyH.nil)
      go_simp
      go_at_call 47; refine (rnum2 _ _ ((l.take 4).drop 2) w.heap.size _ HL2.out (((HB.out.below (Zt.below XA.out)).take 4).cut 2 c (by rw [List.length_take]; have := HN.out; omega) (by omega))).mono ?_; rw [HW2.out]; rintro e v1 ⟨rfl, rfl⟩
      clear hHeld
      refine hKc.out _ _ ?_ (fun hHeld => ?_)
      · (try dsimp only); exact K _ XA.out
      clear hKc Kc
      try simp only [Act.put, List.setIfInBounds_toArray, List.set_cons_zero, List.set_cons_succ]
      refine wpAnyH_ready (rs := [8]) (by kernel_rfl) (by simp) (AllReadyH.cons (o := ⟨some 49, _, _, _, _, _⟩) rfl (fun Kc hKc => ?_) AllReadyH.nil)
      go_simp
      go_at_call 47; refine (rnum4 _ _ ((l.take 8).drop 4) w.heap.size _ HL4.out (((HB.out.below (Zt.below XA.out)).take 8).cut 4 c (by rw [List.length_take]; have := HN.out; omega) (by omega))).mono ?_; rw [HW4.out]; rintro e v2 ⟨rfl, rfl⟩
      clear hHeld
      refine hKc.out _ _ ?_ (fun hHeld => ?_)
      · (try dsimp only); exact K _ XA.out
      clear hKc Kc
      try simp only [Act.put, List.setIfInBounds_toArray, List.set_cons_zero, List.set_cons_succ]
      refine wpAnyH_take (i := 9) (oi := ⟨some 50, _, _, _, _, _⟩) (v := ?_) rfl (by kernel_rfl) (by kernel_rfl) (by kernel_rfl) (fun _ _ _ h => h) (Or.inl ⟨by rfl, ?_⟩) (by assumption) ?_
      rotate_left
      · intro w hSw; (try dsimp only at hSw); go_simp; (try with_reducible rfl)
      try simp only [Act.put, List.setIfInBounds_toArray, List.set_cons_zero, List.set_cons_succ]
      refine wpAnyH_ready (rs := [12]) (by kernel_rfl) (by simp) (AllReadyH.cons (o := ⟨some 53, _, _, _, _, _⟩) rfl (fun Kc hKc => ?_) AllReadyH.nil)
      go_simp
      go_at_call 47; refine (rnum4 _ _ ((l.take 12).drop 8) w.heap.size _ HL8.out (((HB.out.below (Zt.below XA.out)).take 12).cut 8 c (by rw [List.length_take]; have := HN.out; omega) (by omega))).mono ?_; rw [HW8.out]; rintro e v3 ⟨rfl, rfl⟩
      clear hHeld
      refine hKc.out _ _ ?_ (fun hHeld => ?_)
      · (try dsimp only); exact K _ XA.out
      clear hKc Kc
      try simp only [Act.put, List.setIfInBounds_toArray, List.set_cons_zero, List.set_cons_succ]
      refine wpAnyH_take (i := 13) (oi := ⟨some 54, _, _, _, _, _⟩) (v := ?_) rfl (by kernel_rfl) (by kernel_rfl) (by kernel_rfl) (fun _ _ _ h => h) (Or.inl ⟨by rfl, ?_⟩) (by assumption) ?_
      rotate_left
      · intro w hSw; (try dsimp only at hSw); go_simp; (try with_reducible rfl)
      try simp only [Act.put, List.setIfInBounds_toArray, List.set_cons_zero, List.set_cons_succ]
      refine wpAnyH_ready (rs := [20]) (by kernel_rfl) (by simp) (AllReadyH.cons (o := ⟨some 61, _, _, _, _, _⟩) rfl (fun Kc hKc => ?_) AllReadyH.nil)
      go_simp
      go_at_call 47; refine (rnum2 _ _ ((l.take 16).drop 14) w.heap.size _ HL14.out (((HB.out.below (Zt.below XA.out)).take 16).cut 14 c (by rw [List.length_take]; have := HN.out; omega) (by omega))).mono ?_; rw [HW14.out]; rintro e v4 ⟨rfl, rfl⟩
      clear hHeld
      refine hKc.out _ _ ?_ (fun hHeld => ?_)
      · (try dsimp only); exact K _ XA.out
      clear hKc Kc
      try simp only [Act.put, List.setIfInBounds_toArray, List.set_cons_zero, List.set_cons_succ]
      refine wpAnyH_ready (rs := [23]) (by kernel_rfl) (by simp) (AllReadyH.cons (o := ⟨some 64, _, _, _, _, _⟩) rfl (fun Kc hKc => ?_) AllReadyH.nil)
      go_simp
      go_at_call 47; refine (rnum2 _ _ ((l.take 20).drop 18) w.heap.size _ HL18.out (((HB.out.below (Zt.below XA.out)).take 20).cut 18 c (by rw [List.length_take]; have := HN.out; omega) (by omega))).mono ?_; rw [HW18.out]; rintro e v5 ⟨rfl, rfl⟩
      clear hHeld
      refine hKc.out _ _ ?_ (fun hHeld => ?_)
      · (try dsimp only); exact K _ XA.out
      clear hKc Kc
      try simp only [Act.put, List.setIfInBounds_toArray, List.set_cons_zero, List.set_cons_succ]
      refine wpAnyH_take (i := 24) (oi := ⟨some 65, _, _, _, _, _⟩) (v := ?_) rfl (by kernel_rfl) (by kernel_rfl) (by kernel_rfl) (fun _ _ _ h => h) (Or.inl ⟨by rfl, ?_⟩) (by assumption) ?_
      rotate_left
      · intro w hSw; (try dsimp only at hSw); go_simp; (try with_reducible rfl)
      try simp only [Act.put, List.setIfInBounds_toArray, List.set_cons_zero, List.set_cons_succ]
      refine wpAnyH_ready (rs := [26]) (by kernel_rfl) (by simp) (AllReadyH.cons (o := ⟨none, _, _, _, _, _⟩) rfl (fun Kc hKc => ?_) AllReadyH.nil)
      go_simp
      clear hHeld
      refine hKc.out _ _ ?_ (fun hHeld => ?_)
      · (try dsimp only); exact K _ XB.out
      clear hKc Kc
      try simp only [Act.put, List.setIfInBounds_toArray, List.set_cons_zero, List.set_cons_succ]
      refine wpAnyH_done (by kernel_rfl) ?_ _
      go_wp2_with fail
      go_meet
      exact ⟨rfl, rfl⟩
    go_simp
    go_at_call 47; refine (rnum2 _ c (l.take 2) w.heap.size _ HL0.out ((HB.out.below (Zt.below (below_drew X1.out))).take 2)).mono ?_; rw [HW0.out]; rintro e v0 ⟨rfl, rfl⟩
    clear hHeld
    refine hKc.out _ _ ?_ (fun hHeld => ?_)
    · (try dsimp only); exact K _ (below_drew X1.out)
    clear hKc Kc
    try simp only [Act.put, List.setIfInBounds_toArray, List.set_cons_zero, List.set_cons_succ]
    refine wpAnyH_ready (rs := [5, 25]) (by kernel_rfl) (by simp) (AllReadyH.cons (o := ⟨some 46, _, _, _, _, _⟩) rfl (fun Kc hKc => ?_) (AllReadyH.cons (o := ⟨some 9, _, _, _, _, _⟩) rfl (fun Kc hKc => ?_) AllReadyH.nil))
    rotate_left
    ·
      go_simp
      clear hHeld
      refine hKc.out _ _ ?_ (fun hHeld => ?_)
      · (try dsimp only); exact K _ XA.out
      clear hKc Kc
      try simp only [Act.put, List.setIfInBounds_toArray, List.set_cons_zero, List.set_cons_succ]
      refine wpAnyH_ready (rs := [5]) (by kernel_rfl) (by simp) (AllReadyH.cons (o := ⟨some 46, _, _, _, _, _⟩) rfl (fun Kc hKc => ?_) AllReadyH.nil)
      go_simp
      go_at_call 47; refine (rnum2 _ _ ((l.take 4).drop 2) w.heap.size _ HL2.out (((HB.out.below (Zt.below XA.out)).take 4).cut 2 c (by rw [List.length_take]; have := HN.out; omega) (by omega))).mono ?_; rw [HW2.out]; rintro e v1 ⟨rfl, rfl⟩
      clear hHeld
      refine hKc.out _ _ ?_ (fun hHeld => ?_)
      · (try dsimp only); exact K _ XA.out
      clear hKc Kc
      try simp only [Act.put, List.setIfInBounds_toArray, List.set_cons_zero, List.set_cons_succ]
      refine wpAnyH_ready (rs := [8]) (by kernel_rfl) (by simp) (AllReadyH.cons (o := ⟨some 49, _, _, _, _, _⟩) rfl (fun Kc hKc => ?_) AllReadyH.nil)
      go_simp
      go_at_call 47; refine (rnum4 _ _ ((l.take 8).drop 4) w.heap.size _ HL4.out (((HB.out.below (Zt.below XA.out)).take 8).cut 4 c (by rw [List.length_take]; have := HN.out; omega) (by omega))).mono ?_; rw [HW4.out]; rintro e v2 ⟨rfl, rfl⟩
      clear hHeld
      refine hKc.out _ _ ?_ (fun hHeld => ?_)
      · (try dsimp only); exact K _ XA.out
      clear hKc Kc
      try simp only [Act.put, List.setIfInBounds_toArray, List.set_cons_zero, List.set_cons_succ]
      refine wpAnyH_take (i := 9) (oi := ⟨some 50, _, _, _, _, _⟩) (v := ?_) rfl (by kernel_rfl) (by kernel_rfl) (by kernel_rfl) (fun _ _ _ h => h) (Or.inl ⟨by rfl, ?_⟩) (by assumption) ?_
      rotate_left
      · intro w hSw; (try dsimp only at hSw); go_simp; (try with_reducible rfl)
      try simp only [Act.put, List.setIfInBounds_toArray, List.set_cons_zero, List.set_cons_succ]
      refine wpAnyH_ready (rs := [12]) (by kernel_rfl) (by simp) (AllReadyH.cons (o := ⟨some 53, _, _, _, _, _⟩) rfl (fun Kc hKc => ?_) AllReadyH.nil)
      go_simp
      go_at_call 47; refine (rnum4 _ _ ((l.take 12).drop 8) w.heap.size _ HL8.out (((HB.out.below (Zt.below XA.out)).take 12).cut 8 c (by rw [List.length_take]; have := HN.out; omega) (by omega))).mono ?_; rw [HW8.out]; rintro e v3 ⟨rfl, rfl⟩
      clear hHeld
      refine hKc.out _ _ ?_ (fun hHeld => ?_)
      · (try dsimp only); exact K _ XA.out
      clear hKc Kc
      try simp only [Act.put, List.setIfInBounds_toArray, List.set_cons_zero, List.set_cons_succ]
      refine wpAnyH_take (i := 13) (oi := ⟨some 54, _, _, _, _, _⟩) (v := ?_) rfl (by kernel_rfl) (by kernel_rfl) (by kernel_rfl) (fun _ _ _ h => h) (Or.inl ⟨by rfl, ?_⟩) (by assumption) ?_
      rotate_left
      · intro w hSw; (try dsimp only at hSw); go_simp; (try with_reducible rfl)
      try simp only [Act.put, List.setIfInBounds_toArray, List.set_cons_zero, List.set_cons_succ]
      refine wpAnyH_ready (rs := [20]) (by kernel_rfl) (by simp) (AllReadyH.cons (o := ⟨some 61, _, _, _, _, _⟩) rfl (fun Kc hKc => ?_) AllReadyH.nil)
      go_simp
      go_at_call 47; refine (rnum2 _ _ ((l.take 16).drop 14) w.heap.size _ HL14.out (((HB.out.below (Zt.below XA.out)).take 16).cut 14 c (by rw [List.length_take]; have := HN.out; omega) (by omega))).mono ?_; rw [HW14.out]; rintro e v4 ⟨rfl, rfl⟩
      clear hHeld
      refine hKc.out _ _ ?_ (fun hHeld => ?_)
      · (try dsimp only); exact K _ XA.out
      clear hKc Kc
      try simp only [Act.put, List.setIfInBounds_toArray, List.set_cons_zero, List.set_cons_succ]
      refine wpAnyH_ready (rs := [23]) (by kernel_rfl) (by simp) (AllReadyH.cons (o := ⟨some 64, _, _, _, _, _⟩) rfl (fun Kc hKc => ?_) AllReadyH.nil)
      go_simp
      go_at_call 47; refine (rnum2 _ _ ((l.take 20).drop 18) w.heap.size _ HL18.out (((HB.out.below (Zt.below XA.out)).take 20).cut 18 c (by rw [List.length_take]; have := HN.out; omega) (by omega))).mono ?_; rw [HW18.out]; rintro e v5 ⟨rfl, rfl⟩
      clear hHeld
      refine hKc.out _ _ ?_ (fun hHeld => ?_)
      · (try dsimp only); exact K _ XA.out
      clear hKc Kc
      try simp only [Act.put, List.setIfInBounds_toArray, List.set_cons_zero, List.set_cons_succ]
      refine wpAnyH_take (i := 24) (oi := ⟨some 65, _, _, _, _, _⟩) (v := ?_) rfl (by kernel_rfl) (by kernel_rfl) (by kernel_rfl) (fun _ _ _ h => h) (Or.inl ⟨by rfl, ?_⟩) (by assumption) ?_
      rotate_left
      · intro w hSw; (try dsimp only at hSw); go_simp; (try with_reducible rfl)
      try simp only [Act.put, List.setIfInBounds_toArray, List.set_cons_zero, List.set_cons_succ]
      refine wpAnyH_ready (rs := [26]) (by kernel_rfl) (by simp) (AllReadyH.cons (o := ⟨none, _, _, _, _, _⟩) rfl (fun Kc hKc => ?_) AllReadyH.nil)
      go_simp
      clear hHeld
      refine hKc.out _ _ ?_ (fun hHeld => ?_)
      · (try dsimp only); exact K _ XB.out
      clear hKc Kc
      try simp only [Act.put, List.setIfInBounds_toArray, List.set_cons_zero, List.set_cons_succ]
      refine wpAnyH_done (by kernel_rfl) ?_ _
      go_wp2_with fail
      go_meet
      exact ⟨rfl, rfl⟩
    go_simp
    go_at_call 47; refine (rnum2 _ _ ((l.take 4).drop 2) w.heap.size _ HL2.out (((HB.out.below (Zt.below (below_drew X1.out))).take 4).cut 2 c (by rw [List.length_take]; have := HN.out; omega) (by omega))).mono ?_; rw [HW2.out]; rintro e v1 ⟨rfl, rfl⟩
    clear hHeld
    refine hKc.out _ _ ?_ (fun hHeld => ?_)
    · (try dsimp only); exact K _ (below_drew X1.out)
    clear hKc Kc
    try simp only [Act.put, List.setIfInBounds_toArray, List.set_cons_zero, List.set_cons_succ]
    refine wpAnyH_ready (rs := [8, 25]) (by kernel_rfl) (by simp) (AllReadyH.cons (o := ⟨some 49, _, _, _, _, _⟩) rfl (fun Kc hKc => ?_) (AllReadyH.cons (o := ⟨some 9, _, _, _, _, _⟩) rfl (fun Kc hKc => ?_) AllReadyH.nil))
    rotate_left
    ·
      go_simp
      clear hHeld
      refine hKc.out _ _ ?_ (fun hHeld => ?_)
      · (try dsimp only); exact K _ XA.out
      clear hKc Kc
      try simp only [Act.put, List.setIfInBounds_toArray, List.set_cons_zero, List.set_cons_succ]
      refine wpAnyH_ready (rs := [8]) (by kernel_rfl) (by simp) (AllReadyH.cons (o := ⟨some 49, _, _, _, _, _⟩) rfl (fun Kc hKc => ?_) AllReadyH.nil)
      go_simp
      go_at_call 47; refine (rnum4 _ _ ((l.take 8).drop 4) w.heap.size _ HL4.out (((HB.out.below (Zt.below XA.out)).take 8).cut 4 c (by rw [List.length_take]; have := HN.out; omega) (by omega))).mono ?_; rw [HW4.out]; rintro e v2 ⟨rfl, rfl⟩
      clear hHeld
      refine hKc.out _ _ ?_ (fun hHeld => ?_)
      · (try dsimp only); exact K _ XA.out
      clear hKc Kc
      try simp only [Act.put, List.setIfInBounds_toArray, List.set_cons_zero, List.set_cons_succ]
      refine wpAnyH_take (i := 9) (oi := ⟨some 50, _, _, _, _, _⟩) (v := ?_) rfl (by kernel_rfl) (by kernel_rfl) (by kernel_rfl) (fun _ _ _ h => h) (Or.inl ⟨by rfl, ?_⟩) (by assumption) ?_
      rotate_left
      · intro w hSw; (try dsimp only at hSw); go_simp; (try with_reducible rfl)
      try simp only [Act.put, List.setIfInBounds_toArray, List.set_cons_zero, List.set_cons_succ]
      refine wpAnyH_ready (rs := [12]) (by kernel_rfl) (by simp) (AllReadyH.cons (o := ⟨some 53, _, _, _, _, _⟩) rfl (fun Kc hKc => ?_) AllReadyH.nil)
      go_simp
      go_at_call 47; refine (rnum4 _ _ ((l.take 12).drop 8) w.heap.size _ HL8.out (((HB.out.below (Zt.below XA.out)).take 12).cut 8 c (by rw [List.length_take]; have := HN.out; omega) (by omega))).mono ?_; rw [HW8.out]; rintro e v3 ⟨rfl, rfl⟩
      clear hHeld
      refine hKc.out _ _ ?_ (fun hHeld => ?_)
      · (try dsimp only); exact K _ XA.out
      clear hKc Kc
      try simp only [Act.put, List.setIfInBounds_toArray, List.set_cons_zero, List.set_cons_succ]
      refine wpAnyH_take (i := 13) (oi := ⟨some 54, _, _, _, _, _⟩) (v := ?_) rfl (by kernel_rfl) (by kernel_rfl) (by kernel_rfl) (fun _ _ _ h => h) (Or.inl ⟨by rfl, ?_⟩) (by assumption) ?_
      rotate_left
      · intro w hSw; (try dsimp only at hSw); go_simp; (try with_reducible rfl)
      try simp only [Act.put, List.setIfInBounds_toArray, List.set_cons_zero, List.set_cons_succ]
      refine wpAnyH_ready (rs := [20]) (by kernel_rfl) (by simp) (AllReadyH.cons (o := ⟨some 61, _, _, _, _, _⟩) rfl (fun Kc hKc => ?_) AllReadyH.nil)
      go_simp
      go_at_call 47; refine (rnum2 _ _ ((l.take 16).drop 14) w.heap.size _ HL14.out (((HB.out.below (Zt.below XA.out)).take 16).cut 14 c (by rw [List.length_take]; have := HN.out; omega) (by omega))).mono ?_; rw [HW14.out]; rintro e v4 ⟨rfl, rfl⟩
      clear hHeld
      refine hKc.out _ _ ?_ (fun hHeld => ?_)
      · (try dsimp only); exact K _ XA.out
      clear hKc Kc
      try simp only [Act.put, List.setIfInBounds_toArray, List.set_cons_zero, List.set_cons_succ]
      refine wpAnyH_ready (rs := [23]) (by kernel_rfl) (by simp) (AllReadyH.cons (o := ⟨some 64, _, _, _, _, _⟩) rfl (fun Kc hKc => ?_) AllReadyH.nil)
      go_simp
      go_at_call 47; refine (rnum2 _ _ ((l.take 20).drop 18) w.heap.size _ HL18.out (((HB.out.below (Zt.below XA.out)).take 20).cut 18 c (by rw [List.length_take]; have := HN.out; omega) (by omega))).mono ?_; rw [HW18.out]; rintro e v5 ⟨rfl, rfl⟩
      clear hHeld
      refine hKc.out _ _ ?_ (fun hHeld => ?_)
      · (try dsimp only); exact K _ XA.out
      clear hKc Kc
      try simp only [Act.put, List.setIfInBounds_toArray, List.set_cons_zero, List.set_cons_succ]
      refine wpAnyH_take (i := 24) (oi := ⟨some 65, _, _, _, _, _⟩) (v := ?_) rfl (by kernel_rfl) (by kernel_rfl) (by kernel_rfl) (fun _ _ _ h => h) (Or.inl ⟨by rfl, ?_⟩) (by assumption) ?_
      rotate_left
      · intro w hSw; (try dsimp only at hSw); go_simp; (try with_reducible rfl)
      try simp only [Act.put, List.setIfInBounds_toArray, List.set_cons_zero, List.set_cons_succ]
      refine wpAnyH_ready (rs := [26]) (by kernel_rfl) (by simp) (AllReadyH.cons (o := ⟨none, _, _, _, _, _⟩) rfl (fun Kc hKc => ?_) AllReadyH.nil)
      go_simp
      clear hHeld
      refine hKc.out _ _ ?_ (fun hHeld => ?_)
      · (try dsimp only); exact K _ XB.out
      clear hKc Kc
      try simp only [Act.put, List.setIfInBounds_toArray, List.set_cons_zero, List.set_cons_succ]
      refine wpAnyH_done (by kernel_rfl) ?_ _
      go_wp2_with fail
      go_meet
      exact ⟨rfl, rfl⟩
    go_simp
    go_at_call 47; refine (rnum4 _ _ ((l.take 8).drop 4) w.heap.size _ HL4.out (((HB.out.below (Zt.below (below_drew X1.out))).take 8).cut 4 c (by rw [List.length_take]; have := HN.out; omega) (by omega))).mono ?_; rw [HW4.out]; rintro e v2 ⟨rfl, rfl⟩
    clear hHeld
    refine hKc.out _ _ ?_ (fun hHeld => ?_)
    · (try dsimp only); exact K _ (below_drew X1.out)
    clear hKc Kc
    try simp only [Act.put, List.setIfInBounds_toArray, List.set_cons_zero, List.set_cons_succ]
    refine wpAnyH_take (i := 9) (oi := ⟨some 50, _, _, _, _, _⟩) (v := ?_) rfl (by kernel_rfl) (by kernel_rfl) (by kernel_rfl) (fun _ _ _ h => h) (Or.inl ⟨by rfl, ?_⟩) (by assumption) ?_
    rotate_left
    · intro w hSw; (try dsimp only at hSw); go_simp; (try with_reducible rfl)
    try simp only [Act.put, List.setIfInBounds_toArray, List.set_cons_zero, List.set_cons_succ]
    refine wpAnyH_ready (rs := [12, 25]) (by kernel_rfl) (by simp) (AllReadyH.cons (o := ⟨some 53, _, _, _, _, _⟩) rfl (fun Kc hKc => ?_) (AllReadyH.cons (o := ⟨some 9, _, _, _, _, _⟩) rfl (fun Kc hKc => ?_) AllReadyH.nil))
    rotate_left
    ·
      go_simp
      clear hHeld
      refine hKc.out _ _ ?_ (fun hHeld => ?_)
      · (try dsimp only); exact K _ XA.out
      clear hKc Kc
      try simp only [Act.put, List.setIfInBounds_toArray, List.set_cons_zero, List.set_cons_succ]
      refine wpAnyH_ready (rs := [12]) (by kernel_rfl) (by simp) (AllReadyH.cons (o := ⟨some 53, _, _, _, _, _⟩) rfl (fun Kc hKc => ?_) AllReadyH.nil)
      go_simp
      go_at_call 47; refine (rnum4 _ _ ((l.take 12).drop 8) w.heap.size _ HL8.out (((HB.out.below (Zt.below XA.out)).take 12).cut 8 c (by rw [List.length_take]; have := HN.out; omega) (by omega))).mono ?_; rw [HW8.out]; rintro e v3 ⟨rfl, rfl⟩
      clear hHeld
      refine hKc.out _ _ ?_ (fun hHeld => ?_)
      · (try dsimp only); exact K _ XA.out
      clear hKc Kc
      try simp only [Act.put, List.setIfInBounds_toArray, List.set_cons_zero, List.set_cons_succ]
      refine wpAnyH_take (i := 13) (oi := ⟨some 54, _, _, _, _, _⟩) (v := ?_) rfl (by kernel_rfl) (by kernel_rfl) (by kernel_rfl) (fun _ _ _ h => h) (Or.inl ⟨by rfl, ?_⟩) (by assumption) ?_
      rotate_left
      · intro w hSw; (try dsimp only at hSw); go_simp; (try with_reducible rfl)
      try simp only [Act.put, List.setIfInBounds_toArray, List.set_cons_zero, List.set_cons_succ]
      refine wpAnyH_ready (rs := [20]) (by kernel_rfl) (by simp) (AllReadyH.cons (o := ⟨some 61, _, _, _, _, _⟩) rfl (fun Kc hKc => ?_) AllReadyH.nil)
      go_simp
      go_at_call 47; refine (rnum2 _ _ ((l.take 16).drop 14) w.heap.size _ HL14.out (((HB.out.below (Zt.below XA.out)).take 16).cut 14 c (by rw [List.length_take]; have := HN.out; omega) (by omega))).mono ?_; rw [HW14.out]; rintro e v4 ⟨rfl, rfl⟩
      clear hHeld
      refine hKc.out _ _ ?_ (fun hHeld => ?_)
      · (try dsimp only); exact K _ XA.out
      clear hKc Kc
      try simp only [Act.put, List.setIfInBounds_toArray, List.set_cons_zero, List.set_cons_succ]
      refine wpAnyH_ready (rs := [23]) (by kernel_rfl) (by simp) (AllReadyH.cons (o := ⟨some 64, _, _, _, _, _⟩) rfl (fun Kc hKc => ?_) AllReadyH.nil)
      go_simp
      go_at_call 47; refine (rnum2 _ _ ((l.take 20).drop 18) w.heap.size _ HL18.out (((HB.out.below (Zt.below XA.out)).take 20).cut 18 c (by rw [List.length_take]; have := HN.out; omega) (by omega))).mono ?_; rw [HW18.out]; rintro e v5 ⟨rfl, rfl⟩
      clear hHeld
      refine hKc.out _ _ ?_ (fun hHeld => ?_)
      · (try dsimp only); exact K _ XA.out
      clear hKc Kc
      try simp only [Act.put, List.setIfInBounds_toArray, List.set_cons_zero, List.set_cons_succ]
      refine wpAnyH_take (i := 24) (oi := ⟨some 65, _, _, _, _, _⟩) (v := ?_) rfl (by kernel_rfl) (by kernel_rfl) (by kernel_rfl) (fun _ _ _ h => h) (Or.inl ⟨by rfl, ?_⟩) (by assumption) ?_
      rotate_left
      · intro w hSw; (try dsimp only at hSw); go_simp; (try with_reducible rfl)
      try simp only [Act.put, List.setIfInBounds_toArray, List.set_cons_zero, List.set_cons_succ]
      refine wpAnyH_ready (rs := [26]) (by kernel_rfl) (by simp) (AllReadyH.cons (o := ⟨none, _, _, _, _, _⟩) rfl (fun Kc hKc => ?_) AllReadyH.nil)
      go_simp
      clear hHeld
      refine hKc.out _ _ ?_ (fun hHeld => ?_)
      · (try dsimp only); exact K _ XB.out
      clear hKc Kc
      try simp only [Act.put, List.setIfInBounds_toArray, List.set_cons_zero, List.set_cons_succ]
      refine wpAnyH_done (by kernel_rfl) ?_ _
      go_wp2_with fail
      go_meet
      exact ⟨rfl, rfl⟩
    go_simp
    go_at_call 47; refine (rnum4 _ _ ((l.take 12).drop 8) w.heap.size _ HL8.out (((HB.out.below (Zt.below (below_drew X1.out))).take 12).cut 8 c (by rw [List.length_take]; have := HN.out; omega) (by omega))).mono ?_; rw [HW8.out]; rintro e v3 ⟨rfl, rfl⟩
    clear hHeld
    refine hKc.out _ _ ?_ (fun hHeld => ?_)
    · (try dsimp only); exact K _ (below_drew X1.out)
    clear hKc Kc
    try simp only [Act.put, List.setIfInBounds_toArray, List.set_cons_zero, List.set_cons_succ]
    refine wpAnyH_take (i := 13) (oi := ⟨some 54, _, _, _, _, _⟩) (v := ?_) rfl (by kernel_rfl) (by kernel_rfl) (by kernel_rfl) (fun _ _ _ h => h) (Or.inl ⟨by rfl, ?_⟩) (by assumption) ?_
    rotate_left
    · intro w hSw; (try dsimp only at hSw); go_simp; (try with_reducible rfl)
    try simp only [Act.put, List.setIfInBounds_toArray, List.set_cons_zero, List.set_cons_succ]
    refine wpAnyH_ready (rs := [20, 25]) (by kernel_rfl) (by simp) (AllReadyH.cons (o := ⟨some 61, _, _, _, _, _⟩) rfl (fun Kc hKc => ?_) (AllReadyH.cons (o := ⟨some 9, _, _, _, _, _⟩) rfl (fun Kc hKc => ?_) AllReadyH.nil))
    rotate_left
    ·
      go_simp
      clear hHeld
      refine hKc.out _ _ ?_ (fun hHeld => ?_)
      · (try dsimp only); exact K _ XA.out
      clear hKc Kc
      try simp only [Act.put, List.setIfInBounds_toArray, List.set_cons_zero, List.set_cons_succ]
      refine wpAnyH_ready (rs := [20]) (by kernel_rfl) (by simp) (AllReadyH.cons (o := ⟨some 61, _, _, _, _, _⟩) rfl (fun Kc hKc => ?_) AllReadyH.nil)
      go_simp
      go_at_call 47; refine (rnum2 _ _ ((l.take 16).drop 14) w.heap.size _ HL14.out (((HB.out.below (Zt.below XA.out)).take 16).cut 14 c (by rw [List.length_take]; have := HN.out; omega) (by omega))).mono ?_; rw [HW14.out]; rintro e v4 ⟨rfl, rfl⟩
      clear hHeld
      refine hKc.out _ _ ?_ (fun hHeld => ?_)
      · (try dsimp only); exact K _ XA.out
      clear hKc Kc
      try simp only [Act.put, List.setIfInBounds_toArray, List.set_cons_zero, List.set_cons_succ]
      refine wpAnyH_ready (rs := [23]) (by kernel_rfl) (by simp) (AllReadyH.cons (o := ⟨some 64, _, _, _, _, _⟩) rfl (fun Kc hKc => ?_) AllReadyH.nil)
      go_simp
      go_at_call 47; refine (rnum2 _ _ ((l.take 20).drop 18) w.heap.size _ HL18.out (((HB.out.below (Zt.below XA.out)).take 20).cut 18 c (by rw [List.length_take]; have := HN.out; omega) (by omega))).mono ?_; rw [HW18.out]; rintro e v5 ⟨rfl, rfl⟩
      clear hHeld
      refine hKc.out _ _ ?_ (fun hHeld => ?_)
      · (try dsimp only); exact K _ XA.out
      clear hKc Kc
      try simp only [Act.put, List.setIfInBounds_toArray, List.set_cons_zero, List.set_cons_succ]
      refine wpAnyH_take (i := 24) (oi := ⟨some 65, _, _, _, _, _⟩) (v := ?_) rfl (by kernel_rfl) (by kernel_rfl) (by kernel_rfl) (fun _ _ _ h => h) (Or.inl ⟨by rfl, ?_⟩) (by assumption) ?_
      rotate_left
      · intro w hSw; (try dsimp only at hSw); go_simp; (try with_reducible rfl)
      try simp only [Act.put, List.setIfInBounds_toArray, List.set_cons_zero, List.set_cons_succ]
      refine wpAnyH_ready (rs := [26]) (by kernel_rfl) (by simp) (AllReadyH.cons (o := ⟨none, _, _, _, _, _⟩) rfl (fun Kc hKc => ?_) AllReadyH.nil)
      go_simp
      clear hHeld
      refine hKc.out _ _ ?_ (fun hHeld => ?_)
      · (try dsimp only); exact K _ XB.out
      clear hKc Kc
      try simp only [Act.put, List.setIfInBounds_toArray, List.set_cons_zero, List.set_cons_succ]
      refine wpAnyH_done (by kernel_rfl) ?_ _
      go_wp2_with fail
      go_meet
      exact ⟨rfl, rfl⟩
    go_simp
    go_at_call 47; refine (rnum2 _ _ ((l.take 16).drop 14) w.heap.size _ HL14.out (((HB.out.below (Zt.below (below_drew X1.out))).take 16).cut 14 c (by rw [List.length_take]; have := HN.out; omega) (by omega))).mono ?_; rw [HW14.out]; rintro e v4 ⟨rfl, rfl⟩
    clear hHeld
    refine hKc.out _ _ ?_ (fun hHeld => ?_)
    · (try dsimp only); exact K _ (below_drew X1.out)
    clear hKc Kc
    try simp only [Act.put, List.setIfInBounds_toArray, List.set_cons_zero, List.set_cons_succ]
    refine wpAnyH_ready (rs := [23, 25]) (by kernel_rfl) (by simp) (AllReadyH.cons (o := ⟨some 64, _, _, _, _, _⟩) rfl (fun Kc hKc => ?_) (AllReadyH.cons (o := ⟨some 9, _, _, _, _, _⟩) rfl (fun Kc hKc => ?_) AllReadyH.nil))
    rotate_left
    ·
      go_simp
      clear hHeld
      refine hKc.out _ _ ?_ (fun hHeld => ?_)
      · (try dsimp only); exact K _ XA.out
      clear hKc Kc
      try simp only [Act.put, List.setIfInBounds_toArray, List.set_cons_zero, List.set_cons_succ]
      refine wpAnyH_ready (rs := [23]) (by kernel_rfl) (by simp) (AllReadyH.cons (o := ⟨some 64, _, _, _, _, _⟩) rfl (fun Kc hKc => ?_) AllReadyH.nil)
      go_simp
      go_at_call 47; refine (rnum2 _ _ ((l.take 20).drop 18) w.heap.size _ HL18.out (((HB.out.below (Zt.below XA.out)).take 20).cut 18 c (by rw [List.length_take]; have := HN.out; omega) (by omega))).mono ?_; rw [HW18.out]; rintro e v5 ⟨rfl, rfl⟩
      clear hHeld
      refine hKc.out _ _ ?_ (fun hHeld => ?_)
      · (try dsimp only); exact K _ XA.out
      clear hKc Kc
      try simp only [Act.put, List.setIfInBounds_toArray, List.set_cons_zero, List.set_cons_succ]
      refine wpAnyH_take (i := 24) (oi := ⟨some 65, _, _, _, _, _⟩) (v := ?_) rfl (by kernel_rfl) (by kernel_rfl) (by kernel_rfl) (fun _ _ _ h => h) (Or.inl ⟨by rfl, ?_⟩) (by assumption) ?_
      rotate_left
      · intro w hSw; (try dsimp only at hSw); go_simp; (try with_reducible rfl)
      try simp only [Act.put, List.setIfInBounds_toArray, List.set_cons_zero, List.set_cons_succ]
      refine wpAnyH_ready (rs := [26]) (by kernel_rfl) (by simp) (AllReadyH.cons (o := ⟨none, _, _, _, _, _⟩) rfl (fun Kc hKc => ?_) AllReadyH.nil)
      go_simp
      clear hHeld
      refine hKc.out _ _ ?_ (fun hHeld => ?_)
      · (try dsimp only); exact K _ XB.out
      clear hKc Kc
      try simp only [Act.put, List.setIfInBounds_toArray, List.set_cons_zero, List.set_cons_succ]
      refine wpAnyH_done (by kernel_rfl) ?_ _
      go_wp2_with fail
      go_meet
      exact ⟨rfl, rfl⟩
    go_simp
    go_at_call 47; refine (rnum2 _ _ ((l.take 20).drop 18) w.heap.size _ HL18.out (((HB.out.below (Zt.below (below_drew X1.out))).take 20).cut 18 c (by rw [List.length_take]; have := HN.out; omega) (by omega))).mono ?_; rw [HW18.out]; rintro e v5 ⟨rfl, rfl⟩
    clear hHeld
    refine hKc.out _ _ ?_ (fun hHeld => ?_)
    · (try dsimp only); exact K _ (below_drew X1.out)
    clear hKc Kc
    try simp only [Act.put, List.setIfInBounds_toArray, List.set_cons_zero, List.set_cons_succ]
    refine wpAnyH_take (i := 24) (oi := ⟨some 65, _, _, _, _, _⟩) (v := ?_) rfl (by kernel_rfl) (by kernel_rfl) (by kernel_rfl) (fun _ _ _ h => h) (Or.inl ⟨by rfl, ?_⟩) (by assumption) ?_
    rotate_left
    · intro w hSw; (try dsimp only at hSw); go_simp; (try with_reducible rfl)
    try simp only [Act.put, List.setIfInBounds_toArray, List.set_cons_zero, List.set_cons_succ]
    refine wpAnyH_ready (rs := [25]) (by kernel_rfl) (by simp) (AllReadyH.cons (o := ⟨some 9, _, _, _, _, _⟩) rfl (fun Kc hKc => ?_) AllReadyH.nil)
    go_simp
    clear hHeld
    refine hKc.out _ _ ?_ (fun hHeld => ?_)
    · (try dsimp only); exact K _ XA.out
    clear hKc Kc
    try simp only [Act.put, List.setIfInBounds_toArray, List.set_cons_zero, List.set_cons_succ]
    refine wpAnyH_ready (rs := [26]) (by kernel_rfl) (by simp) (AllReadyH.cons (o := ⟨none, _, _, _, _, _⟩) rfl (fun Kc hKc => ?_) AllReadyH.nil)
    go_simp
    clear hHeld
    refine hKc.out _ _ ?_ (fun hHeld => ?_)
    · (try dsimp only); exact K _ XB.out
    clear hKc Kc
    try simp only [Act.put, List.setIfInBounds_toArray, List.set_cons_zero, List.set_cons_succ]
    refine wpAnyH_done (by kernel_rfl) ?_ _
    go_wp2_with fail
    go_meet
    exact ⟨rfl, rfl⟩
  case rest =>
    obtain ⟨rfl, rfl⟩ := hcut
    have XB2 : Below (w.heap.size + 1) (Zt w) (w1.alloc (.cells #[.int .i64 (wd l 0), .int .i64 (wd l 2), .int .u32 (ad4 l 4), .int .u32 (ad4 l 8), .int .i64 (g8 l 13), .int .i64 (wd l 14), .int .i64 (wd l 18), .slice none 0 0, .slice none 0 0] 54)).drew := XB.out
    have q0 : Bq l w1.heap.size (w1.alloc (.cells #[.int .i64 (wd l 0), .int .i64 (wd l 2), .int .u32 (ad4 l 4), .int .u32 (ad4 l 8), .int .i64 (g8 l 13), .int .i64 (wd l 14), .int .i64 (wd l 18), .slice none 0 0, .slice none 0 0] 54)).drew [] none 0 := ⟨by simp [World.drew], tcIs.made (w := w1) (t := tq l []) (A_opts := none) (c_opts := 0) (A_body := none) (c_body := 0), fun o => by show (w1.alloc _).frozen? _ = false; simp [go_sem]⟩
    have gz : w.heap.size < w1.heap.size := Zt.size X1.out
    have X2 := Go.Lib.hid XB2
    have hlt0 : ad.block < w.heap.size := hlt
    have Q0 := Go.Lib.hid q0
    clear XA XB XB2 q0 K c13 X1
    generalize (w1.alloc (.cells #[.int .i64 (wd l 0), .int .i64 (wd l 2), .int .u32 (ad4 l 4), .int .u32 (ad4 l 8), .int .i64 (g8 l 13), .int .i64 (wd l 14), .int .i64 (wd l 18), .slice none 0 0, .slice none 0 0] 54)).drew = W2 at *
    generalize w1.heap.size = g at *
    have LK : Hid ((l.take k).length = k) := Go.Lib.hid (by rw [List.length_take, HN.out]; omega)
    go_wp2
    go_loopw [10] (fun a wx => ∃ (q : Nat) (acc : List Op) (Ao : Option Addr) (co f : Nat), a = .int .i64 q ∧ 20 ≤ q ∧ q ≤ k ∧ k ≤ q + f ∧ Hid (pOpts f ((l.take k).drop q) acc = pOpts 60 ((l.take k).drop 20) []) ∧ Hid (rightB acc = true) ∧ Hid (Bq l g wx acc Ao co) ∧ Hid (ORow wx (g + 1) (.slice Ao acc.length co) acc) ∧ Below (w.heap.size + 1) (Zt w) wx) (fun a _ => k - (intOf a).toNat)
    case atStart => exact ⟨20, [], none, 0, 60, rfl, by omega, k20, by omega, Go.Lib.hid rfl, Go.Lib.hid right_nil, Q0, Go.Lib.hid ORow.nil_, X2.out⟩
    case round =>
      obtain ⟨q, acc, Ao, co, f, rfl, hq20, hqk, hqf, HR, HRB, HQ, HO, x3⟩ := hrel
      clear Q0 X2
      have i1 : (0 : Int) ≤ (q : Int) := by omega
      have e1 := IntWalk.i64_in ((q : Int) + 1) (by omega)
      have iq1 : (0 : Int) ≤ (q : Int) + 1 := by omega
      have tq1 : ((q : Int) + 1).toNat = q + 1 := by omega
      have hg := HQ.out.lt
      have HZ := Go.Lib.hid (zt_of x3)
      by_cases hlt : q < k
      · have i2 : (q : Int) < (n : Int) := by omega
        obtain ⟨ad2, hae, _, hcell⟩ := g8_cells (HB.out.below (Zt.below x3)) (by have := HN.out; omega)
        cases hae
        have cq := hcell q (by have := HN.out; omega)
        have HG0 := Go.Lib.hid (g8_taken l k q hlt (by have := HN.out; omega))
        have gx0 := g8_lo l q
        have gx1 := g8_hi l q
        obtain ⟨x2, hx2⟩ : ∃ x, g8 l q = x := ⟨_, rfl⟩
        rw [hx2] at cq gx0 gx1
        have HX2 : Hid (g8 (l.take k) q = x2) := Go.Lib.hid (by rw [HG0.out, hx2])
        obtain ⟨f, rfl⟩ : ∃ f', f = f' + 1 := ⟨f - 1, by omega⟩
        clear hx2 HG0
        by_cases h0 : x2 = 0
        · have HE : Hid (pOpts 60 ((l.take k).drop 20) [] = some acc) := Go.Lib.hid (by
            rw [← HR.out]; exact pOpts_zero f (l.take k) q acc (by rw [LK.out]; exact hlt) (by rw [HX2.out, h0]))
          have t0 : (x2 != 0) = false := by simpa using h0
          clear h0 hcell
          have HP2 : Hid (prsT src dst l = (0, rdT l k acc)) := Go.Lib.hid (by rw [HP.out, HE.out])
          have HRW := HO.out
          obtain ⟨Ao9, co9, hv9, o1, o2, o3, o4⟩ := HRW.form
          injection hv9 with e91 e92 e93
          subst e91 e93
          have HO4 := Go.Lib.hid o4
          have HO3 := Go.Lib.hid o3
          have HDL : Hid ((l.drop k).length = n - k) := Go.Lib.hid (by rw [List.length_drop, HN.out])
          have HDB : Hid (Bs wr w.heap.size (if c = k then (some ad : Option Addr) else some (ad.add k)) (l.drop k)) := Go.Lib.hid (by rw [add_pos ad k (by omega)]; exact (HB.out.below (Zt.below x3)).cut k c (by have := HN.out; omega) (by omega))
          have HDN : Hid ((if c = k then (some ad : Option Addr) else some (ad.add k)) = none → c - k = 0) := Go.Lib.hid (fun h => by split at h <;> cases h)
          have j1 : (k : Int) ≤ (n : Int) := by omega
          have j2 : (k : Int) ≤ (c : Int) := by omega
          have j3 : (0 : Int) ≤ (k : Int) := by omega
          have hsz := (Zt.below x3).size
          clear e92 HRW o3 o4 HO HE HR HRB HZ
          go_upto_region 23 with (at_builtin; refine wpList_copy_rd rfl _ _ 23 rfl 5 i0 (.int .u8 0) 1 Try.underlying23 hi hz0 hz1 hz2 rfl rfl w.heap.size _ (n - k) (c - k) ((l.drop k).map bv) rfl (by simpa using HDL.out) HDN.out HDB.out.rd hsz (bv_one _) (by unfold maxLen; omega) (by omega) ?_; intro vb Y5 hown5 hb5; obtain ⟨Ab, cb, rfl, hgb⟩ := own_gives hown5 hb5; have Q5 := Go.Lib.hid (HQ.out.keep hb5); have p8 := Q5.out.cells.cells.2.2.2.2.2.2.2.2; have f8 := Q5.out.fz 8)
          have x5 := x3.trans (hb5.mono (Zt.size x3))
          have hgwr : g < wr.heap.size := hg
          have y6 : Below (w.heap.size + 1) (Zt w) (Y5.setCell ⟨g, 8, none⟩ (.slice Ab (n - k) cb)) := x5.setCell (p := ⟨g, 8, none⟩) gz _
          obtain ⟨c0, c1, c2, c3, c4, c5, c6, c7, c8⟩ := Q5.out.cells.cells
          have oth : ∀ (j : Nat) (v : Value), j ≠ 8 → Y5.cell? ⟨g, j, none⟩ = some v → (Y5.setCell ⟨g, 8, none⟩ (.slice Ab (n - k) cb)).cell? ⟨g, j, none⟩ = some v := fun j v hj hv => by
            rw [World.cell?_setCell_other Y5 _ _ _ (fun e => hj (by injection e with _ e; omega))]; exact hv
          have d0 := oth 0 _ (by decide) c0
          have d1 := oth 1 _ (by decide) c1
          have d2 := oth 2 _ (by decide) c2
          have d3 := oth 3 _ (by decide) c3
          have d4 := oth 4 _ (by decide) c4
          have d5 := oth 5 _ (by decide) c5
          have d6 := oth 6 _ (by decide) c6
          have d7 := oth 7 _ (by decide) c7
          have d8 : (Y5.setCell ⟨g, 8, none⟩ (.slice Ab (n - k) cb)).cell? ⟨g, 8, none⟩ = some (.slice Ab (n - k) cb) := World.cell?_setCell_same Y5 _ _ c8
          have OF : Hid (OsF (Y5.setCell ⟨g, 8, none⟩ (.slice Ab (n - k) cb)) (g + 1) (Y5.setCell ⟨g, 8, none⟩ (.slice Ab (n - k) cb)).heap.size Ao acc) := Go.Lib.hid (by rw [World.size_setCell]; exact ((HO4.out.below hb5).more hb5.size).set (Nat.lt_succ_self _) _ _)
          have BF : Hid (BsF (Y5.setCell ⟨g, 8, none⟩ (.slice Ab (n - k) cb)) wr.heap.size (Y5.setCell ⟨g, 8, none⟩ (.slice Ab (n - k) cb)).heap.size Ab (l.drop k)) := Go.Lib.hid (by rw [World.size_setCell]; exact (BsF.of hgb.bs (fun _ ad e => hgb.fresh ad e)).set hgwr _ _)
          have hlen := hgb.len
          have hcap := hgb.cap
          have hnil := hgb.nil
          rw [HDL.out] at hlen
          have HNIL := Go.Lib.hid hnil
          dsimp only [tq] at d0 d1 d2 d3 d4 d5 d6 d7
          clear c0 c1 c2 c3 c4 c5 c6 c7 c8 oth p8 f8 Q5 HQ hgb hb5 hown5 x5 x3 hnil HO4 HDB HDN
          generalize Y5.setCell ⟨g, 8, none⟩ (.slice Ab (n - k) cb) = Y6 at *
          obtain ⟨⟨z0, z1, z2, z3, z4, z5, z6, z7, z8⟩, zf⟩ := zt_of y6
          have yF := Zt.below y6
          have hgne : g ≠ w.heap.size := by omega
          have HV : (.agg #[.int .i64 (wd l 0), .int .i64 (wd l 2), .int .u32 (ad4 l 4), .int .u32 (ad4 l 8), .int .i64 (g8 l 13), .int .i64 (wd l 14), .int .i64 (wd l 18), .slice Ao acc.length co, .slice Ab (n - k) cb] : Value) = tcV (rdT l k acc) Ao co Ab cb := by
            have e1 := HDL.out
            rw [← e1]
            rfl
          have HV' := Go.Lib.hid HV
          have HG : Hid (GivT w (set9 Y6 w.heap.size (.int .i64 (wd l 0)) (.int .i64 (wd l 2)) (.int .u32 (ad4 l 4)) (.int .u32 (ad4 l 8)) (.int .i64 (g8 l 13)) (.int .i64 (wd l 14)) (.int .i64 (wd l 18)) (.slice Ao acc.length co) (.slice Ab (n - k) cb)) (rdT l k acc) Ao co Ab cb) := by
            refine Go.Lib.hid ⟨?_, below_s9 yF (Nat.le_refl _) _ _ _ _ _ _ _ _ _⟩
            rw [size_s9]
            exact ⟨ad4_lo l 4, ad4_hi l 4, ad4_lo l 8, ad4_hi l 8, o1, o2, HO3.out, (OF.out.set9 (by omega) _ _ _ _ _ _ _ _ _).os, by show (l.drop k).length ≤ cb; rw [HDL.out]; exact hlen, hcap, HNIL.out, (BF.out.set9 (by omega) _ _ _ _ _ _ _ _ _).bs⟩
          clear y6 yF HV OF BF
          go_wp2
          all_goals
            refine bodyPost_ret (v := .tuple #[.agg #[.int .i64 (wd l 0), .int .i64 (wd l 2), .int .u32 (ad4 l 4), .int .u32 (ad4 l 8), .int .i64 (g8 l 13), .int .i64 (wd l 14), .int .i64 (wd l 18), .slice Ao acc.length co, .slice Ab (n - k) cb], .int .i64 0]) ?_ rfl (parsT_ok HP2.out (by rw [HV'.out]) HG.out)
            simp [results, Try.results24, go_sem, z0, z1, z2, z3, z4, z5, z6, z7, z8]
        · have t0 : (x2 != 0) = true := by simpa using h0
          by_cases h1 : x2 = 1
          · have HE : Hid (pOpts f ((l.take k).drop (q + 1)) acc = pOpts 60 ((l.take k).drop 20) []) := Go.Lib.hid (by
              rw [← HR.out]; exact (pOpts_one f (l.take k) q acc (by rw [LK.out]; exact hlt) (by rw [HX2.out, h1])).symm)
            have t1 : (x2 == 1) = true := by simpa using h1
            clear h0 h1 hcell
            go_wp2
            go_roundw
            case rel => exact ⟨q + 1, acc, Ao, co, f, by go_num, by omega, by omega, by omega, HE, HRB, HQ, HO, x3⟩
            case measure => simp [intOf]; omega
          · have t1 : (x2 == 1) = false := by simpa using h1
            by_cases hk1 : k ≤ q + 1
            · have HBAD : Hid (pOpts 60 ((l.take k).drop 20) [] = none) := Go.Lib.hid (by
                rw [← HR.out]; exact pOpts_bad f (l.take k) q acc (by rw [LK.out]; exact hlt) (by rw [HX2.out]; exact h0) (by rw [HX2.out]; exact h1) (.inl (by rw [LK.out]; exact hk1)))
              have i3 : (k : Int) ≤ (q : Int) + 1 := by omega
              clear h0 h1 hcell
              obtain ⟨⟨z0, z1, z2, z3, z4, z5, z6, z7, z8⟩, zf⟩ := HZ.out
              have HP2 : Hid (prsT src dst l = (6, Tc.empty)) := Go.Lib.hid (by rw [HP.out, HBAD.out])
              have y3 := Zt.below x3
              clear HQ HO HR HRB x3
              go_wp2
              refine bodyPost_ret (v := .tuple #[.agg #[.int .i64 0, .int .i64 0, .int .u32 0, .int .u32 0, .int .i64 0, .int .i64 0, .int .i64 0, .slice none 0 0, .slice none 0 0], .int .i64 6]) ?_ rfl (parsT_err HP2.out rfl ?_)
              · simp [results, Try.results24, go_sem, z0, z1, z2, z3, z4, z5, z6, z7, z8]
              · exact below_s9 y3 (Nat.le_refl _) _ _ _ _ _ _ _ _ _
            · have cq1 : wr.cell? { block := ad.block, off := ad.off + (q + 1) } = some (.int .u8 (g8 l (q + 1))) := by have := hcell (q + 1) (by have := HN.out; omega); rwa [add_pos ad (q + 1) (by omega)] at this
              have HG1 := Go.Lib.hid (g8_taken l k (q + 1) (by omega) (by have := HN.out; omega))
              have gy0 := g8_lo l (q + 1)
              have gy1 := g8_hi l (q + 1)
              obtain ⟨m, hm⟩ : ∃ m : Nat, (m : Int) = g8 l (q + 1) := ⟨(g8 l (q + 1)).toNat, by omega⟩
              rw [← hm] at cq1 gy0 gy1
              have HM1 : Hid (g8 (l.take k) (q + 1) = (m : Int)) := Go.Lib.hid (by rw [HG1.out, hm])
              have i3 : (q : Int) + 1 < (k : Int) := by omega
              have i4 : (q : Int) + 1 < (n : Int) := by omega
              have e2 := IntWalk.i64_in (m : Int) (by omega)
              have e3 := IntWalk.i64_in ((q : Int) + (m : Int)) (by omega)
              clear hm HG1
              by_cases hmb : m < 2 ∨ k < q + m
              · have HBAD : Hid (pOpts 60 ((l.take k).drop 20) [] = none) := Go.Lib.hid (by
                  rw [← HR.out]; exact pOpts_bad f (l.take k) q acc (by rw [LK.out]; exact hlt) (by rw [HX2.out]; exact h0) (by rw [HX2.out]; exact h1) (.inr (by rw [HM1.out, LK.out]; omega)))
                have hmb' : (m : Int) < 2 ∨ (2 ≤ (m : Int) ∧ (k : Int) < (q : Int) + (m : Int)) := by omega
                clear h0 h1 hcell hmb
                rcases hmb' with i5 | ⟨i5, i6⟩
                · obtain ⟨⟨z0, z1, z2, z3, z4, z5, z6, z7, z8⟩, zf⟩ := HZ.out
                  have HP2 : Hid (prsT src dst l = (6, Tc.empty)) := Go.Lib.hid (by rw [HP.out, HBAD.out])
                  have y3 := Zt.below x3
                  clear HQ HO HR HRB x3
                  go_wp2
                  refine bodyPost_ret (v := .tuple #[.agg #[.int .i64 0, .int .i64 0, .int .u32 0, .int .u32 0, .int .i64 0, .int .i64 0, .int .i64 0, .slice none 0 0, .slice none 0 0], .int .i64 6]) ?_ rfl (parsT_err HP2.out rfl ?_)
                  · simp [results, Try.results24, go_sem, z0, z1, z2, z3, z4, z5, z6, z7, z8]
                  · exact below_s9 y3 (Nat.le_refl _) _ _ _ _ _ _ _ _ _
                · obtain ⟨⟨z0, z1, z2, z3, z4, z5, z6, z7, z8⟩, zf⟩ := HZ.out
                  have HP2 : Hid (prsT src dst l = (6, Tc.empty)) := Go.Lib.hid (by rw [HP.out, HBAD.out])
                  have y3 := Zt.below x3
                  clear HQ HO HR HRB x3
                  go_wp2
                  refine bodyPost_ret (v := .tuple #[.agg #[.int .i64 0, .int .i64 0, .int .u32 0, .int .u32 0, .int .i64 0, .int .i64 0, .int .i64 0, .slice none 0 0, .slice none 0 0], .int .i64 6]) ?_ rfl (parsT_err HP2.out rfl ?_)
                  · simp [results, Try.results24, go_sem, z0, z1, z2, z3, z4, z5, z6, z7, z8]
                  · exact below_s9 y3 (Nat.le_refl _) _ _ _ _ _ _ _ _ _
              ·
                have hm2 : 2 ≤ m := by omega
                have hmk : q + m ≤ k := by omega
                obtain ⟨dat, hdat⟩ : ∃ dat, dat = ((l.take k).take (q + m)).drop (q + 2) := ⟨_, rfl⟩
                have HST : Hid (pOpts 60 ((l.take k).drop 20) [] = if rightB (acc ++ [(⟨x2, dat⟩ : Op)]) = true then pOpts f ((l.take k).drop (q + m)) (acc ++ [⟨x2, dat⟩]) else none) := Go.Lib.hid (by
                  rw [← HR.out, pOpts_step f (l.take k) q acc m HM1.out.symm (by rw [LK.out]; omega) (by rw [HX2.out]; exact h0) (by rw [HX2.out]; exact h1) hm2 (by rw [LK.out]; exact hmk), HX2.out, hdat])
                have HDL : Hid (dat.length = q + m - (q + 2)) := Go.Lib.hid (by rw [hdat, List.length_drop, List.length_take, LK.out]; omega)
                have HDB : Hid (Bs wr w.heap.size (if c = q + 2 then (some ad : Option Addr) else some { block := ad.block, off := ad.off + (q + 2) }) dat) := Go.Lib.hid (by
                  rw [hdat]; exact (((HB.out.below (Zt.below x3)).take k).take (q + m)).cut (q + 2) c (by rw [List.length_take, LK.out]; omega) (by omega))
                have HDN : Hid ((if c = q + 2 then (some ad : Option Addr) else some { block := ad.block, off := ad.off + (q + 2) }) = none → c - (q + 2) = 0) := Go.Lib.hid (fun h => by split at h <;> cases h)
                have HAC : Hid (acc.length ≤ 40) := Go.Lib.hid (by
                  have h1 := right_olen acc HRB.out
                  have h2 : 2 * acc.length ≤ olen acc := by
                    clear h1 HR HRB HQ HO HST
                    induction acc with
                    | nil => simp
                    | cons o r ih => simp only [olen, List.length_cons]; omega
                  omega)
                obtain ⟨A14, hA14⟩ : ∃ A14, (if c = q + 2 then (some ad : Option Addr) else some { block := ad.block, off := ad.off + (q + 2) }) = A14 := ⟨_, rfl⟩
                have HDB : Hid (Bs wr w.heap.size A14 dat) := Go.Lib.hid (hA14 ▸ HDB.out)
                have HDN : Hid (A14 = none → c - (q + 2) = 0) := Go.Lib.hid (hA14 ▸ HDN.out)
                have p00 := HQ.out.cells.cells.2.2.2.2.2.2.2.1
                dsimp only [tq] at p00
                have hws := (Zt.below x3).size
                have E7 : Hid (Below wr.heap.size wr (wr.drew.alloc (.cells #[] 5))) := Go.Lib.hid ((below_drew (Below.refl _ _)).alloc (Nat.le_refl _) _)
                have HRZ : Hid (Row (wr.drew.alloc (.cells #[] 5)) wr.heap.size (.slice (some ⟨wr.heap.size, 0, none⟩) 0 0) []) := Go.Lib.hid (own_lit wr.drew wr.heap.size [] (fun x hx => by cases hx) (Nat.le_refl _) (by simp)).row
                have K2 : ∀ Y, Below wr.heap.size wr Y → Y.cell? (ad.add q) = some (.int .u8 x2) ∧ Below (w.heap.size + 1) (Zt w) Y := fun Y y => ⟨(y.cell (p := ad.add q) (by rw [block_add]; omega)).trans cq, x3.trans (y.mono (Zt.size x3))⟩
                have cw : w.cell? (ad.add q) = some (.int .u8 x2) := ((Zt.below x3).cell (p := ad.add q) (by rw [block_add]; exact hlt0)).symm.trans cq
                have K3 : ∀ Y, Below (w.heap.size + 1) (Zt w) Y → Y.cell? (ad.add q) = some (.int .u8 x2) ∧ Below (w.heap.size + 1) (Zt w) Y := fun Y y => ⟨((Zt.below y).cell (p := ad.add q) (by rw [block_add]; exact hlt0)).trans cw, y⟩
                have i5 : (2 : Int) ≤ (m : Int) := by omega
                have i6 : (q : Int) + (m : Int) ≤ (k : Int) := by omega
                have i7 : (q : Int) + (m : Int) ≤ (c : Int) := by omega
                have i8 : (q : Int) + 2 ≤ (q : Int) + (m : Int) := by omega
                have i9 : (0 : Int) ≤ (q : Int) + 2 := by omega
                have i10 : (0 : Int) ≤ (q : Int) + (m : Int) := by omega
                have e4 := IntWalk.i64_in ((q : Int) + 2) (by omega)
                have e5 : ((q : Int) + 2).toNat = q + 2 := by omega
                have e6 : ((q : Int) + (m : Int)).toNat = q + m := by omega
                have e7 := IntWalk.i64_in x2 (by omega)
                clear hcell h0 h1 hmb hdat
                go_upto_region 18 with fail
                go_cut [] (fun wx => NextQ l g x2 dat acc w wx)
                case first =>
                  refine wp_region_held_drew (S := (fun Y => Y.cell? (ad.add q) = some (.int .u8 x2) ∧ Below (w.heap.size + 1) (Zt w) Y)) (by kernel_rfl) ?_ (fun hHeld => ?_)
                  · exact K2 _ (below_drew (Below.refl _ _))
                  refine wpAnyH_take (i := 0) (oi := ⟨some 114, _, _, _, _, _⟩) (v := ?_) rfl (by kernel_rfl) (by kernel_rfl) (by kernel_rfl) (fun _ _ _ h => h) (Or.inl ⟨by rfl, ?_⟩) (by assumption) ?_
                  rotate_left
                  · intro w hSw; (try dsimp only at hSw); go_simp; (try with_reducible rfl)
                  try simp only [Act.put, List.setIfInBounds_toArray, List.set_cons_zero, List.set_cons_succ]
                  refine wpAnyH_take (i := 2) (oi := ⟨some 116, _, _, _, _, _⟩) (v := ?_) rfl (by kernel_rfl) (by kernel_rfl) (by kernel_rfl) (fun _ _ _ h => h) (Or.inl ⟨by rfl, ?_⟩) (by assumption) ?_
                  rotate_left
                  · intro w hSw; (try dsimp only at hSw); go_simp; (try with_reducible rfl)
                  try simp only [Act.put, List.setIfInBounds_toArray, List.set_cons_zero, List.set_cons_succ]
                  refine wpAnyH_take (i := 3) (oi := ⟨some 117, _, _, _, _, _⟩) (v := ?_) rfl (by kernel_rfl) (by kernel_rfl) (by kernel_rfl) (fun _ _ _ h => h) (Or.inl ⟨by rfl, ?_⟩) (by assumption) ?_
                  rotate_left
                  · intro w hSw; (try dsimp only at hSw); go_simp; (try with_reducible rfl)
                  try simp only [Act.put, List.setIfInBounds_toArray, List.set_cons_zero, List.set_cons_succ]
                  refine wpAnyH_take (i := 4) (oi := ⟨some 118, _, _, _, _, _⟩) (v := ?_) rfl (by kernel_rfl) (by kernel_rfl) (by kernel_rfl) (fun _ _ _ h => h) (Or.inl ⟨by rfl, ?_⟩) (by assumption) ?_
                  rotate_left
                  · intro w hSw; (try dsimp only at hSw); go_simp; (try with_reducible rfl)
                  try simp only [Act.put, List.setIfInBounds_toArray, List.set_cons_zero, List.set_cons_succ]
                  refine wpAnyH_take (i := 5) (oi := ⟨some 119, _, _, _, _, _⟩) (v := ?_) rfl (by kernel_rfl) (by kernel_rfl) (by kernel_rfl) (fun _ _ _ h => h) (Or.inl ⟨by rfl, ?_⟩) (by assumption) ?_
                  rotate_left
                  · intro w hSw; (try dsimp only at hSw); go_simp; (try with_reducible rfl)
                  try simp only [Act.put, List.setIfInBounds_toArray, List.set_cons_zero, List.set_cons_succ]
                  refine wpAnyH_take (i := 6) (oi := ⟨some 120, _, _, _, _, _⟩) (v := ?_) rfl (by kernel_rfl) (by kernel_rfl) (by kernel_rfl) (fun _ _ _ h => h) (Or.inl ⟨by rfl, ?_⟩) (by assumption) ?_
                  rotate_left
                  · intro w hSw; (try dsimp only at hSw); go_simp; (try with_reducible rfl)
                  try simp only [Act.put, List.setIfInBounds_toArray, List.set_cons_zero, List.set_cons_succ]
                  refine wpAnyH_take (i := 8) (oi := ⟨some 122, _, _, _, _, _⟩) (v := ?_) rfl (by kernel_rfl) (by kernel_rfl) (by kernel_rfl) (fun _ _ _ h => h) (Or.inl ⟨by rfl, ?_⟩) (by assumption) ?_
                  rotate_left
                  · intro w hSw; (try dsimp only at hSw); go_simp; (try with_reducible rfl)
                  try simp only [Act.put, List.setIfInBounds_toArray, List.set_cons_zero, List.set_cons_succ]
                  refine wpAnyH_take (i := 9) (oi := ⟨some 123, _, _, _, _, _⟩) (v := ?_) rfl (by kernel_rfl) (by kernel_rfl) (by kernel_rfl) (fun _ _ _ h => h) (Or.inl ⟨by rfl, ?_⟩) (by assumption) ?_
                  rotate_left
                  · intro w hSw; (try dsimp only at hSw); go_simp; (try with_reducible rfl)
                  try simp only [Act.put, List.setIfInBounds_toArray, List.set_cons_zero, List.set_cons_succ]
                  refine wpAnyH_take (i := 10) (oi := ⟨some 124, _, _, _, _, _⟩) (v := ?_) rfl (by kernel_rfl) (by kernel_rfl) (by kernel_rfl) (fun _ _ _ h => h) (Or.inl ⟨by rfl, ?_⟩) (by assumption) ?_
                  rotate_left
                  · intro w hSw; (try dsimp only at hSw); go_simp; (try with_reducible rfl)
                  try simp only [Act.put, List.setIfInBounds_toArray, List.set_cons_zero, List.set_cons_succ]
                  refine wpAnyH_take (i := 11) (oi := ⟨some 125, _, _, _, _, _⟩) (v := ?_) rfl (by kernel_rfl) (by kernel_rfl) (by kernel_rfl) (fun _ _ _ h => h) (Or.inl ⟨by rfl, ?_⟩) (by assumption) ?_
                  rotate_left
                  · intro w hSw; (try dsimp only at hSw); go_simp; (try with_reducible rfl)
                  try simp only [Act.put, List.setIfInBounds_toArray, List.set_cons_zero, List.set_cons_succ]
                  refine wpAnyH_take (i := 12) (oi := ⟨some 126, _, _, _, _, _⟩) (v := ?_) rfl (by kernel_rfl) (by kernel_rfl) (by kernel_rfl) (fun _ _ _ h => h) (Or.inl ⟨by rfl, ?_⟩) (by assumption) ?_
                  rotate_left
                  · intro w hSw; (try dsimp only at hSw); go_simp; (try with_reducible rfl)
                  try simp only [Act.put, List.setIfInBounds_toArray, List.set_cons_zero, List.set_cons_succ]
                  refine wpAnyH_take (i := 13) (oi := ⟨some 127, _, _, _, _, _⟩) (v := ?_) rfl (by kernel_rfl) (by kernel_rfl) (by kernel_rfl) (fun _ _ _ h => h) (Or.inl ⟨by rfl, ?_⟩) (by assumption) ?_
                  rotate_left
                  · intro w hSw; (try dsimp only at hSw); go_simp; (try with_reducible rfl)
                  try simp only [Act.put, List.setIfInBounds_toArray, List.set_cons_zero, List.set_cons_succ]
                  refine wpAnyH_take (i := 14) (oi := ⟨some 128, _, _, _, _, _⟩) (v := ?_) rfl (by kernel_rfl) (by kernel_rfl) (by kernel_rfl) (fun _ _ _ h => h) (Or.inl ⟨by rfl, ?_⟩) (by assumption) ?_
                  rotate_left
                  · intro w hSw; (try dsimp only at hSw); go_simp; (try with_reducible rfl)
                  try simp only [Act.put, List.setIfInBounds_toArray, List.set_cons_zero, List.set_cons_succ]
                  refine wpAnyH_ready (rs := [1, 7]) (by kernel_rfl) (by simp) (AllReadyH.cons (o := ⟨some 115, _, _, _, _, _⟩) rfl (fun Kc hKc => ?_) (AllReadyH.cons (o := ⟨some 121, _, _, _, _, _⟩) rfl (fun Kc hKc => ?_) AllReadyH.nil))
                  ·
                    have p0 := (HQ.out.keep (below_drew (Below.refl _ _))).cells.cells.2.2.2.2.2.2.2.1
                    dsimp only [tq] at p0
                    go_simp
                    clear hHeld
                    refine hKc.out _ _ ?_ (fun hHeld => ?_)
                    · (try dsimp only); exact K2 _ (below_drew (Below.refl _ _))
                    clear hKc Kc
                    try simp only [Act.put, List.setIfInBounds_toArray, List.set_cons_zero, List.set_cons_succ]
                    refine wpAnyH_ready (rs := [7]) (by kernel_rfl) (by simp) (AllReadyH.cons (o := ⟨some 121, _, _, _, _, _⟩) rfl (fun Kc hKc => ?_) AllReadyH.nil)
                    go_simp
                    clear hHeld
                    refine hKc.out _ _ ?_ (fun hHeld => ?_)
                    · (try dsimp only); exact K2 _ E7.out
                    clear hKc Kc
                    try simp only [Act.put, List.setIfInBounds_toArray, List.set_cons_zero, List.set_cons_succ]
                    refine wpAnyH_ready (rs := [15]) (by kernel_rfl) (by simp) (AllReadyH.cons (o := ⟨some 129, _, _, _, _, _⟩) rfl (fun Kc hKc => ?_) AllReadyH.nil)
                    refine apS rfl _ _ rfl wr.heap.size _ [] rfl HRZ.out w.heap.size _ _ _ dat rfl HDL.out HDN.out (HDB.out.below (E7.out.mono hws)) (by simp) (by omega) E7.out.size ?_
                    intro v7 w7 hrow7 hb7
                    rw [List.nil_append] at hrow7
                    have y7 := E7.out.trans hb7
                    have ho7 := Row.lt hrow7
                    obtain ⟨A7, c7', hv7, hl7, hc7, hn7, hs7⟩ := hrow7.form
                    rw [HDL.out] at hv7
                    subst hv7
                    clear hHeld
                    refine hKc.out _ _ ?_ (fun hHeld => ?_)
                    · (try dsimp only); exact K2 _ y7
                    clear hKc Kc
                    try simp only [Act.put, List.setIfInBounds_toArray, List.set_cons_zero, List.set_cons_succ]
                    refine wpAnyH_take (i := 16) (oi := ⟨some 130, _, _, _, _, _⟩) (v := ?_) rfl (by kernel_rfl) (by kernel_rfl) (by kernel_rfl) (fun _ _ _ h => h) (Or.inl ⟨by rfl, ?_⟩) (by assumption) ?_
                    rotate_left
                    · intro w hSw; (try dsimp only at hSw); go_simp; (try with_reducible rfl)
                    try simp only [Act.put, List.setIfInBounds_toArray, List.set_cons_zero, List.set_cons_succ]
                    refine wpAnyH_ready (rs := [17]) (by kernel_rfl) (by simp) (AllReadyH.cons (o := ⟨some 131, _, _, _, _, _⟩) rfl (fun Kc hKc => ?_) AllReadyH.nil)
                    go_simp
                    have y8 := y7.alloc y7.size (.cells #[.int .i64 x2, .slice A7 (q + m - (q + 2)) c7'] 86)
                    have e8 : Below w7.heap.size w7 (w7.alloc (.cells #[.int .i64 x2, .slice A7 (q + m - (q + 2)) c7'] 86)) := (Below.refl _ _).alloc (Nat.le_refl _) _
                    have q40 : (w7.alloc (.cells #[.int .i64 x2, .slice A7 (q + m - (q + 2)) c7'] 86)).cell? ⟨w7.heap.size, 0, none⟩ = some (.int .i64 x2) := by simp [go_sem]
                    have q41 : (w7.alloc (.cells #[.int .i64 x2, .slice A7 (q + m - (q + 2)) c7'] 86)).cell? ⟨w7.heap.size, 1, none⟩ = some (.slice A7 (q + m - (q + 2)) c7') := by simp [go_sem]
                    generalize w7.alloc (.cells #[.int .i64 x2, .slice A7 (q + m - (q + 2)) c7'] 86) = w8 at *
                    clear hHeld
                    refine hKc.out _ _ ?_ (fun hHeld => ?_)
                    · (try dsimp only); exact K2 _ y8
                    clear hKc Kc
                    try simp only [Act.put, List.setIfInBounds_toArray, List.set_cons_zero, List.set_cons_succ]
                    refine wpAnyH_ready (rs := [18]) (by kernel_rfl) (by simp) (AllReadyH.cons (o := ⟨some 132, _, _, _, _, _⟩) rfl (fun Kc hKc => ?_) AllReadyH.nil)
                    refine opS rfl (.tmp 115) (.tmp 131) rfl (g + 1) (.slice Ao acc.length co) acc rfl (HO.out.keep y8) w7.heap.size 1 rfl x2 A7 _ c7' dat q40 q41 HDL.out ((hs7.below e8).more e8.size) (by have := HDL.out; omega) hc7 hn7 ?_ (by have := HAC.out; omega) (Nat.le_trans hg y8.size) ?_
                    · intro _ ad7 e7
                      have k2 := (ho7 ad7.block (by rw [e7]; rfl)).1
                      refine ⟨fun hov => ?_, by omega⟩
                      have k1 := (HO.out.lt _ hov).2
                      omega
                    intro v9 w9 o9 b9
                    obtain ⟨A9, c9, rfl, n1, n2, n3, n4⟩ := o9.form
                    have Q9 := (HQ.out.keep y8).keepB b9 (Nat.lt_succ_self _)
                    have z9 := (x3.trans (y8.mono (Zt.size x3))).trans (b9.mono (by omega))
                    have p7 := Q9.cells.cells.2.2.2.2.2.2.2.1
                    dsimp only [tq] at p7
                    have f7 := Q9.fz 7
                    clear hHeld
                    refine hKc.out _ _ ?_ (fun hHeld => ?_)
                    · (try dsimp only); exact K3 _ z9
                    clear hKc Kc
                    try simp only [Act.put, List.setIfInBounds_toArray, List.set_cons_zero, List.set_cons_succ]
                    refine wpAnyH_take (i := 19) (oi := ⟨some 133, _, _, _, _, _⟩) (v := ?_) rfl (by kernel_rfl) (by kernel_rfl) (by kernel_rfl) (fun _ _ _ h => h) (Or.inl ⟨by rfl, ?_⟩) (by assumption) ?_
                    rotate_left
                    · intro w hSw; (try dsimp only at hSw); go_simp; (try with_reducible rfl)
                    try simp only [Act.put, List.setIfInBounds_toArray, List.set_cons_zero, List.set_cons_succ]
                    refine wpAnyH_ready (rs := [20]) (by kernel_rfl) (by simp) (AllReadyH.cons (o := ⟨none, _, _, _, _, _⟩) rfl (fun Kc hKc => ?_) AllReadyH.nil)
                    go_simp
                    have zF := z9.setCell (p := ⟨g, 7, none⟩) gz (.slice A9 (acc.length + 1) c9)
                    clear hHeld
                    refine hKc.out _ _ ?_ (fun hHeld => ?_)
                    · (try dsimp only); exact K3 _ zF
                    clear hKc Kc
                    try simp only [Act.put, List.setIfInBounds_toArray, List.set_cons_zero, List.set_cons_succ]
                    refine wpAnyH_done (by kernel_rfl) ?_ _
                    go_wp2_with fail
                    go_meet
                    have hl : (acc ++ [(⟨x2, dat⟩ : Op)]).length = acc.length + 1 := by simp
                    exact ⟨A9, c9, by rw [← hl]; exact Q9.put _ A9 c9, by rw [← hl]; exact o9.under (Nat.lt_succ_self _) 7 _, zF⟩
                  go_simp
                  clear hHeld
                  refine hKc.out _ _ ?_ (fun hHeld => ?_)
                  · (try dsimp only); exact K2 _ E7.out
                  clear hKc Kc
                  try simp only [Act.put, List.setIfInBounds_toArray, List.set_cons_zero, List.set_cons_succ]
                  refine wpAnyH_ready (rs := [1, 15]) (by kernel_rfl) (by simp) (AllReadyH.cons (o := ⟨some 115, _, _, _, _, _⟩) rfl (fun Kc hKc => ?_) (AllReadyH.cons (o := ⟨some 129, _, _, _, _, _⟩) rfl (fun Kc hKc => ?_) AllReadyH.nil))
                  ·
                    have p0 := (HQ.out.keep E7.out).cells.cells.2.2.2.2.2.2.2.1
                    dsimp only [tq] at p0
                    go_simp
                    clear hHeld
                    refine hKc.out _ _ ?_ (fun hHeld => ?_)
                    · (try dsimp only); exact K2 _ E7.out
                    clear hKc Kc
                    try simp only [Act.put, List.setIfInBounds_toArray, List.set_cons_zero, List.set_cons_succ]
                    refine wpAnyH_ready (rs := [15]) (by kernel_rfl) (by simp) (AllReadyH.cons (o := ⟨some 129, _, _, _, _, _⟩) rfl (fun Kc hKc => ?_) AllReadyH.nil)
                    refine apS rfl _ _ rfl wr.heap.size _ [] rfl HRZ.out w.heap.size _ _ _ dat rfl HDL.out HDN.out (HDB.out.below (E7.out.mono hws)) (by simp) (by omega) E7.out.size ?_
                    intro v7 w7 hrow7 hb7
                    rw [List.nil_append] at hrow7
                    have y7 := E7.out.trans hb7
                    have ho7 := Row.lt hrow7
                    obtain ⟨A7, c7', hv7, hl7, hc7, hn7, hs7⟩ := hrow7.form
                    rw [HDL.out] at hv7
                    subst hv7
                    clear hHeld
                    refine hKc.out _ _ ?_ (fun hHeld => ?_)
                    · (try dsimp only); exact K2 _ y7
                    clear hKc Kc
                    try simp only [Act.put, List.setIfInBounds_toArray, List.set_cons_zero, List.set_cons_succ]
                    refine wpAnyH_take (i := 16) (oi := ⟨some 130, _, _, _, _, _⟩) (v := ?_) rfl (by kernel_rfl) (by kernel_rfl) (by kernel_rfl) (fun _ _ _ h => h) (Or.inl ⟨by rfl, ?_⟩) (by assumption) ?_
                    rotate_left
                    · intro w hSw; (try dsimp only at hSw); go_simp; (try with_reducible rfl)
                    try simp only [Act.put, List.setIfInBounds_toArray, List.set_cons_zero, List.set_cons_succ]
                    refine wpAnyH_ready (rs := [17]) (by kernel_rfl) (by simp) (AllReadyH.cons (o := ⟨some 131, _, _, _, _, _⟩) rfl (fun Kc hKc => ?_) AllReadyH.nil)
                    go_simp
                    have y8 := y7.alloc y7.size (.cells #[.int .i64 x2, .slice A7 (q + m - (q + 2)) c7'] 86)
                    have e8 : Below w7.heap.size w7 (w7.alloc (.cells #[.int .i64 x2, .slice A7 (q + m - (q + 2)) c7'] 86)) := (Below.refl _ _).alloc (Nat.le_refl _) _
                    have q40 : (w7.alloc (.cells #[.int .i64 x2, .slice A7 (q + m - (q + 2)) c7'] 86)).cell? ⟨w7.heap.size, 0, none⟩ = some (.int .i64 x2) := by simp [go_sem]
                    have q41 : (w7.alloc (.cells #[.int .i64 x2, .slice A7 (q + m - (q + 2)) c7'] 86)).cell? ⟨w7.heap.size, 1, none⟩ = some (.slice A7 (q + m - (q + 2)) c7') := by simp [go_sem]
                    generalize w7.alloc (.cells #[.int .i64 x2, .slice A7 (q + m - (q + 2)) c7'] 86) = w8 at *
                    clear hHeld
                    refine hKc.out _ _ ?_ (fun hHeld => ?_)
                    · (try dsimp only); exact K2 _ y8
                    clear hKc Kc
                    try simp only [Act.put, List.setIfInBounds_toArray, List.set_cons_zero, List.set_cons_succ]
                    refine wpAnyH_ready (rs := [18]) (by kernel_rfl) (by simp) (AllReadyH.cons (o := ⟨some 132, _, _, _, _, _⟩) rfl (fun Kc hKc => ?_) AllReadyH.nil)
                    refine opS rfl (.tmp 115) (.tmp 131) rfl (g + 1) (.slice Ao acc.length co) acc rfl (HO.out.keep y8) w7.heap.size 1 rfl x2 A7 _ c7' dat q40 q41 HDL.out ((hs7.below e8).more e8.size) (by have := HDL.out; omega) hc7 hn7 ?_ (by have := HAC.out; omega) (Nat.le_trans hg y8.size) ?_
                    · intro _ ad7 e7
                      have k2 := (ho7 ad7.block (by rw [e7]; rfl)).1
                      refine ⟨fun hov => ?_, by omega⟩
                      have k1 := (HO.out.lt _ hov).2
                      omega
                    intro v9 w9 o9 b9
                    obtain ⟨A9, c9, rfl, n1, n2, n3, n4⟩ := o9.form
                    have Q9 := (HQ.out.keep y8).keepB b9 (Nat.lt_succ_self _)
                    have z9 := (x3.trans (y8.mono (Zt.size x3))).trans (b9.mono (by omega))
                    have p7 := Q9.cells.cells.2.2.2.2.2.2.2.1
                    dsimp only [tq] at p7
                    have f7 := Q9.fz 7
                    clear hHeld
                    refine hKc.out _ _ ?_ (fun hHeld => ?_)
                    · (try dsimp only); exact K3 _ z9
                    clear hKc Kc
                    try simp only [Act.put, List.setIfInBounds_toArray, List.set_cons_zero, List.set_cons_succ]
                    refine wpAnyH_take (i := 19) (oi := ⟨some 133, _, _, _, _, _⟩) (v := ?_) rfl (by kernel_rfl) (by kernel_rfl) (by kernel_rfl) (fun _ _ _ h => h) (Or.inl ⟨by rfl, ?_⟩) (by assumption) ?_
                    rotate_left
                    · intro w hSw; (try dsimp only at hSw); go_simp; (try with_reducible rfl)
                    try simp only [Act.put, List.setIfInBounds_toArray, List.set_cons_zero, List.set_cons_succ]
                    refine wpAnyH_ready (rs := [20]) (by kernel_rfl) (by simp) (AllReadyH.cons (o := ⟨none, _, _, _, _, _⟩) rfl (fun Kc hKc => ?_) AllReadyH.nil)
                    go_simp
                    have zF := z9.setCell (p := ⟨g, 7, none⟩) gz (.slice A9 (acc.length + 1) c9)
                    clear hHeld
                    refine hKc.out _ _ ?_ (fun hHeld => ?_)
                    · (try dsimp only); exact K3 _ zF
                    clear hKc Kc
                    try simp only [Act.put, List.setIfInBounds_toArray, List.set_cons_zero, List.set_cons_succ]
                    refine wpAnyH_done (by kernel_rfl) ?_ _
                    go_wp2_with fail
                    go_meet
                    have hl : (acc ++ [(⟨x2, dat⟩ : Op)]).length = acc.length + 1 := by simp
                    exact ⟨A9, c9, by rw [← hl]; exact Q9.put _ A9 c9, by rw [← hl]; exact o9.under (Nat.lt_succ_self _) 7 _, zF⟩
                  refine apS rfl _ _ rfl wr.heap.size _ [] rfl HRZ.out w.heap.size _ _ _ dat rfl HDL.out HDN.out (HDB.out.below (E7.out.mono hws)) (by simp) (by omega) E7.out.size ?_
                  intro v7 w7 hrow7 hb7
                  rw [List.nil_append] at hrow7
                  have y7 := E7.out.trans hb7
                  have ho7 := Row.lt hrow7
                  obtain ⟨A7, c7', hv7, hl7, hc7, hn7, hs7⟩ := hrow7.form
                  rw [HDL.out] at hv7
                  subst hv7
                  clear hHeld
                  refine hKc.out _ _ ?_ (fun hHeld => ?_)
                  · (try dsimp only); exact K2 _ y7
                  clear hKc Kc
                  try simp only [Act.put, List.setIfInBounds_toArray, List.set_cons_zero, List.set_cons_succ]
                  refine wpAnyH_take (i := 16) (oi := ⟨some 130, _, _, _, _, _⟩) (v := ?_) rfl (by kernel_rfl) (by kernel_rfl) (by kernel_rfl) (fun _ _ _ h => h) (Or.inl ⟨by rfl, ?_⟩) (by assumption) ?_
                  rotate_left
                  · intro w hSw; (try dsimp only at hSw); go_simp; (try with_reducible rfl)
                  try simp only [Act.put, List.setIfInBounds_toArray, List.set_cons_zero, List.set_cons_succ]
                  refine wpAnyH_ready (rs := [1, 17]) (by kernel_rfl) (by simp) (AllReadyH.cons (o := ⟨some 115, _, _, _, _, _⟩) rfl (fun Kc hKc => ?_) (AllReadyH.cons (o := ⟨some 131, _, _, _, _, _⟩) rfl (fun Kc hKc => ?_) AllReadyH.nil))
                  ·
                    have p0 := (HQ.out.keep y7).cells.cells.2.2.2.2.2.2.2.1
                    dsimp only [tq] at p0
                    go_simp
                    clear hHeld
                    refine hKc.out _ _ ?_ (fun hHeld => ?_)
                    · (try dsimp only); exact K2 _ y7
                    clear hKc Kc
                    try simp only [Act.put, List.setIfInBounds_toArray, List.set_cons_zero, List.set_cons_succ]
                    refine wpAnyH_ready (rs := [17]) (by kernel_rfl) (by simp) (AllReadyH.cons (o := ⟨some 131, _, _, _, _, _⟩) rfl (fun Kc hKc => ?_) AllReadyH.nil)
                    go_simp
                    have y8 := y7.alloc y7.size (.cells #[.int .i64 x2, .slice A7 (q + m - (q + 2)) c7'] 86)
                    have e8 : Below w7.heap.size w7 (w7.alloc (.cells #[.int .i64 x2, .slice A7 (q + m - (q + 2)) c7'] 86)) := (Below.refl _ _).alloc (Nat.le_refl _) _
                    have q40 : (w7.alloc (.cells #[.int .i64 x2, .slice A7 (q + m - (q + 2)) c7'] 86)).cell? ⟨w7.heap.size, 0, none⟩ = some (.int .i64 x2) := by simp [go_sem]
                    have q41 : (w7.alloc (.cells #[.int .i64 x2, .slice A7 (q + m - (q + 2)) c7'] 86)).cell? ⟨w7.heap.size, 1, none⟩ = some (.slice A7 (q + m - (q + 2)) c7') := by simp [go_sem]
                    generalize w7.alloc (.cells #[.int .i64 x2, .slice A7 (q + m - (q + 2)) c7'] 86) = w8 at *
                    clear hHeld
                    refine hKc.out _ _ ?_ (fun hHeld => ?_)
                    · (try dsimp only); exact K2 _ y8
                    clear hKc Kc
                    try simp only [Act.put, List.setIfInBounds_toArray, List.set_cons_zero, List.set_cons_succ]
                    refine wpAnyH_ready (rs := [18]) (by kernel_rfl) (by simp) (AllReadyH.cons (o := ⟨some 132, _, _, _, _, _⟩) rfl (fun Kc hKc => ?_) AllReadyH.nil)
                    refine opS rfl (.tmp 115) (.tmp 131) rfl (g + 1) (.slice Ao acc.length co) acc rfl (HO.out.keep y8) w7.heap.size 1 rfl x2 A7 _ c7' dat q40 q41 HDL.out ((hs7.below e8).more e8.size) (by have := HDL.out; omega) hc7 hn7 ?_ (by have := HAC.out; omega) (Nat.le_trans hg y8.size) ?_
                    · intro _ ad7 e7
                      have k2 := (ho7 ad7.block (by rw [e7]; rfl)).1
                      refine ⟨fun hov => ?_, by omega⟩
                      have k1 := (HO.out.lt _ hov).2
                      omega
                    intro v9 w9 o9 b9
                    obtain ⟨A9, c9, rfl, n1, n2, n3, n4⟩ := o9.form
                    have Q9 := (HQ.out.keep y8).keepB b9 (Nat.lt_succ_self _)
                    have z9 := (x3.trans (y8.mono (Zt.size x3))).trans (b9.mono (by omega))
                    have p7 := Q9.cells.cells.2.2.2.2.2.2.2.1
                    dsimp only [tq] at p7
                    have f7 := Q9.fz 7
                    clear hHeld
                    refine hKc.out _ _ ?_ (fun hHeld => ?_)
                    · (try dsimp only); exact K3 _ z9
                    clear hKc Kc
                    try simp only [Act.put, List.setIfInBounds_toArray, List.set_cons_zero, List.set_cons_succ]
                    refine wpAnyH_take (i := 19) (oi := ⟨some 133, _, _, _, _, _⟩) (v := ?_) rfl (by kernel_rfl) (by kernel_rfl) (by kernel_rfl) (fun _ _ _ h => h) (Or.inl ⟨by rfl, ?_⟩) (by assumption) ?_
                    rotate_left
                    · intro w hSw; (try dsimp only at hSw); go_simp; (try with_reducible rfl)
                    try simp only [Act.put, List.setIfInBounds_toArray, List.set_cons_zero, List.set_cons_succ]
                    refine wpAnyH_ready (rs := [20]) (by kernel_rfl) (by simp) (AllReadyH.cons (o := ⟨none, _, _, _, _, _⟩) rfl (fun Kc hKc => ?_) AllReadyH.nil)
                    go_simp
                    have zF := z9.setCell (p := ⟨g, 7, none⟩) gz (.slice A9 (acc.length + 1) c9)
                    clear hHeld
                    refine hKc.out _ _ ?_ (fun hHeld => ?_)
                    · (try dsimp only); exact K3 _ zF
                    clear hKc Kc
                    try simp only [Act.put, List.setIfInBounds_toArray, List.set_cons_zero, List.set_cons_succ]
                    refine wpAnyH_done (by kernel_rfl) ?_ _
                    go_wp2_with fail
                    go_meet
                    have hl : (acc ++ [(⟨x2, dat⟩ : Op)]).length = acc.length + 1 := by simp
                    exact ⟨A9, c9, by rw [← hl]; exact Q9.put _ A9 c9, by rw [← hl]; exact o9.under (Nat.lt_succ_self _) 7 _, zF⟩
                  go_simp
                  have y8 := y7.alloc y7.size (.cells #[.int .i64 x2, .slice A7 (q + m - (q + 2)) c7'] 86)
                  have e8 : Below w7.heap.size w7 (w7.alloc (.cells #[.int .i64 x2, .slice A7 (q + m - (q + 2)) c7'] 86)) := (Below.refl _ _).alloc (Nat.le_refl _) _
                  have q40 : (w7.alloc (.cells #[.int .i64 x2, .slice A7 (q + m - (q + 2)) c7'] 86)).cell? ⟨w7.heap.size, 0, none⟩ = some (.int .i64 x2) := by simp [go_sem]
                  have q41 : (w7.alloc (.cells #[.int .i64 x2, .slice A7 (q + m - (q + 2)) c7'] 86)).cell? ⟨w7.heap.size, 1, none⟩ = some (.slice A7 (q + m - (q + 2)) c7') := by simp [go_sem]
                  generalize w7.alloc (.cells #[.int .i64 x2, .slice A7 (q + m - (q + 2)) c7'] 86) = w8 at *
                  clear hHeld
                  refine hKc.out _ _ ?_ (fun hHeld => ?_)
                  · (try dsimp only); exact K2 _ y8
                  clear hKc Kc
                  try simp only [Act.put, List.setIfInBounds_toArray, List.set_cons_zero, List.set_cons_succ]
                  refine wpAnyH_ready (rs := [1]) (by kernel_rfl) (by simp) (AllReadyH.cons (o := ⟨some 115, _, _, _, _, _⟩) rfl (fun Kc hKc => ?_) AllReadyH.nil)
                  have p0 := (HQ.out.keep y8).cells.cells.2.2.2.2.2.2.2.1
                  dsimp only [tq] at p0
                  go_simp
                  clear hHeld
                  refine hKc.out _ _ ?_ (fun hHeld => ?_)
                  · (try dsimp only); exact K2 _ y8
                  clear hKc Kc
                  try simp only [Act.put, List.setIfInBounds_toArray, List.set_cons_zero, List.set_cons_succ]
                  refine wpAnyH_ready (rs := [18]) (by kernel_rfl) (by simp) (AllReadyH.cons (o := ⟨some 132, _, _, _, _, _⟩) rfl (fun Kc hKc => ?_) AllReadyH.nil)
                  refine opS rfl (.tmp 115) (.tmp 131) rfl (g + 1) (.slice Ao acc.length co) acc rfl (HO.out.keep y8) w7.heap.size 1 rfl x2 A7 _ c7' dat q40 q41 HDL.out ((hs7.below e8).more e8.size) (by have := HDL.out; omega) hc7 hn7 ?_ (by have := HAC.out; omega) (Nat.le_trans hg y8.size) ?_
                  · intro _ ad7 e7
                    have k2 := (ho7 ad7.block (by rw [e7]; rfl)).1
                    refine ⟨fun hov => ?_, by omega⟩
                    have k1 := (HO.out.lt _ hov).2
                    omega
                  intro v9 w9 o9 b9
                  obtain ⟨A9, c9, rfl, n1, n2, n3, n4⟩ := o9.form
                  have Q9 := (HQ.out.keep y8).keepB b9 (Nat.lt_succ_self _)
                  have z9 := (x3.trans (y8.mono (Zt.size x3))).trans (b9.mono (by omega))
                  have p7 := Q9.cells.cells.2.2.2.2.2.2.2.1
                  dsimp only [tq] at p7
                  have f7 := Q9.fz 7
                  clear hHeld
                  refine hKc.out _ _ ?_ (fun hHeld => ?_)
                  · (try dsimp only); exact K3 _ z9
                  clear hKc Kc
                  try simp only [Act.put, List.setIfInBounds_toArray, List.set_cons_zero, List.set_cons_succ]
                  refine wpAnyH_take (i := 19) (oi := ⟨some 133, _, _, _, _, _⟩) (v := ?_) rfl (by kernel_rfl) (by kernel_rfl) (by kernel_rfl) (fun _ _ _ h => h) (Or.inl ⟨by rfl, ?_⟩) (by assumption) ?_
                  rotate_left
                  · intro w hSw; (try dsimp only at hSw); go_simp; (try with_reducible rfl)
                  try simp only [Act.put, List.setIfInBounds_toArray, List.set_cons_zero, List.set_cons_succ]
                  refine wpAnyH_ready (rs := [20]) (by kernel_rfl) (by simp) (AllReadyH.cons (o := ⟨none, _, _, _, _, _⟩) rfl (fun Kc hKc => ?_) AllReadyH.nil)
                  go_simp
                  have zF := z9.setCell (p := ⟨g, 7, none⟩) gz (.slice A9 (acc.length + 1) c9)
                  clear hHeld
                  refine hKc.out _ _ ?_ (fun hHeld => ?_)
                  · (try dsimp only); exact K3 _ zF
                  clear hKc Kc
                  try simp only [Act.put, List.setIfInBounds_toArray, List.set_cons_zero, List.set_cons_succ]
                  refine wpAnyH_done (by kernel_rfl) ?_ _
                  go_wp2_with fail
                  go_meet
                  have hl : (acc ++ [(⟨x2, dat⟩ : Op)]).length = acc.length + 1 := by simp
                  exact ⟨A9, c9, by rw [← hl]; exact Q9.put _ A9 c9, by rw [← hl]; exact o9.under (Nat.lt_succ_self _) 7 _, zF⟩
                case rest =>
                  obtain ⟨A9, c9, hQ9, hO9, x9⟩ := hcut
                  have HQ9 := Go.Lib.hid hQ9
                  have HO9 := Go.Lib.hid hO9
                  obtain ⟨A10, c10, hv10, n1, n2, n3, n4⟩ := hO9.form
                  have HN4 := Go.Lib.hid n4
                  injection hv10 with v1 v2 v3
                  subst v1 v3
                  have p9 := hQ9.cells.cells.2.2.2.2.2.2.2.1
                  dsimp only [tq] at p9
                  have HAC2 := HAC.out
                  obtain ⟨rb, hrb⟩ : ∃ rb, rightB (acc ++ [(⟨x2, dat⟩ : Op)]) = rb := ⟨_, rfl⟩
                  have HRB2 := Go.Lib.hid hrb
                  clear hrb hQ9 hO9 n1 n3 n4 v2 K2 K3 cw cq cq1 p00 HRZ E7 hA14 HDB HDN
                  go_wp2_with fail
                  refine (rright_b A9 _ c9 (acc ++ [⟨x2, dat⟩]) wc.heap.size _ rb HRB2.out (by simp) HN4.out.os (by simp; omega)).mono ?_
                  rintro e wd9 ⟨rfl, m9, rfl⟩
                  dsimp only
                  have x10 : Below (w.heap.size + 1) (Zt w) (wc.drewN m9) := below_dn x9 m9
                  have HQ10 : Hid (Bq l g (wc.drewN m9) (acc ++ [⟨x2, dat⟩]) A9 c9) := Go.Lib.hid (HQ9.out.keep (below_dn (Below.refl _ _) m9))
                  have HO10 : Hid (ORow (wc.drewN m9) (g + 1) (.slice A9 (acc ++ [(⟨x2, dat⟩ : Op)]).length c9) (acc ++ [⟨x2, dat⟩])) := Go.Lib.hid (HO9.out.drewN m9)
                  have HZ10 := Go.Lib.hid (zt_of x10)
                  clear HQ9 HO9 x9 p9 HN4
                  generalize wc.drewN m9 = w10 at *
                  cases rb
                  · have HBAD : Hid (pOpts 60 ((l.take k).drop 20) [] = none) := Go.Lib.hid (by rw [HST.out, HRB2.out]; rfl)
                    obtain ⟨⟨z0, z1, z2, z3, z4, z5, z6, z7, z8⟩, zf⟩ := HZ10.out
                    have HP2 : Hid (prsT src dst l = (6, Tc.empty)) := Go.Lib.hid (by rw [HP.out, HBAD.out])
                    have y3 := Zt.below x10
                    clear HQ10 HO10 HR HRB x10 HQ HO HZ x3 HST
                    go_wp2
                    refine bodyPost_ret (v := .tuple #[.agg #[.int .i64 0, .int .i64 0, .int .u32 0, .int .u32 0, .int .i64 0, .int .i64 0, .int .i64 0, .slice none 0 0, .slice none 0 0], .int .i64 6]) ?_ rfl (parsT_err HP2.out rfl ?_)
                    · simp [results, Try.results24, go_sem, z0, z1, z2, z3, z4, z5, z6, z7, z8]
                    · exact below_s9 y3 (Nat.le_refl _) _ _ _ _ _ _ _ _ _
                  · have HE : Hid (pOpts f ((l.take k).drop (q + m)) (acc ++ [⟨x2, dat⟩]) = pOpts 60 ((l.take k).drop 20) []) := Go.Lib.hid (by rw [HST.out, HRB2.out]; rfl)
                    go_wp2
                    go_roundw
                    case rel => exact ⟨q + m, acc ++ [⟨x2, dat⟩], A9, c9, f, by go_num, by omega, by omega, by omega, HE, Go.Lib.hid HRB2.out, HQ10, HO10, x10⟩
                    case measure => simp [intOf]; omega
      · obtain rfl : q = k := by omega
        have HE : Hid (pOpts 60 ((l.take q).drop 20) [] = some acc) := Go.Lib.hid (by
          rw [← HR.out]; exact pOpts_end f (l.take q) q acc (by rw [LK.out]; exact Nat.le_refl _))
        have HP2 : Hid (prsT src dst l = (0, rdT l q acc)) := Go.Lib.hid (by rw [HP.out, HE.out])
        have HRW := HO.out
        obtain ⟨Ao9, co9, hv9, o1, o2, o3, o4⟩ := HRW.form
        injection hv9 with e91 e92 e93
        subst e91 e93
        have HO4 := Go.Lib.hid o4
        have HO3 := Go.Lib.hid o3
        have HDL : Hid ((l.drop q).length = n - q) := Go.Lib.hid (by rw [List.length_drop, HN.out])
        have HDB : Hid (Bs wr w.heap.size (if c = q then (some ad : Option Addr) else some (ad.add q)) (l.drop q)) := Go.Lib.hid (by rw [add_pos ad q (by omega)]; exact (HB.out.below (Zt.below x3)).cut q c (by have := HN.out; omega) (by omega))
        have HDN : Hid ((if c = q then (some ad : Option Addr) else some (ad.add q)) = none → c - q = 0) := Go.Lib.hid (fun h => by split at h <;> cases h)
        have j1 : (q : Int) ≤ (n : Int) := by omega
        have j2 : (q : Int) ≤ (c : Int) := by omega
        have j3 : (0 : Int) ≤ (q : Int) := by omega
        have hsz := (Zt.below x3).size
        clear e92 HRW o3 o4 HO HE HR HRB HZ
        go_upto_region 23 with (at_builtin; refine wpList_copy_rd rfl _ _ 23 rfl 5 i0 (.int .u8 0) 1 Try.underlying23 hi hz0 hz1 hz2 rfl rfl w.heap.size _ (n - q) (c - q) ((l.drop q).map bv) rfl (by simpa using HDL.out) HDN.out HDB.out.rd hsz (bv_one _) (by unfold maxLen; omega) (by omega) ?_; intro vb Y5 hown5 hb5; obtain ⟨Ab, cb, rfl, hgb⟩ := own_gives hown5 hb5; have Q5 := Go.Lib.hid (HQ.out.keep hb5); have p8 := Q5.out.cells.cells.2.2.2.2.2.2.2.2; have f8 := Q5.out.fz 8)
        have x5 := x3.trans (hb5.mono (Zt.size x3))
        have hgwr : g < wr.heap.size := hg
        have y6 : Below (w.heap.size + 1) (Zt w) (Y5.setCell ⟨g, 8, none⟩ (.slice Ab (n - q) cb)) := x5.setCell (p := ⟨g, 8, none⟩) gz _
        obtain ⟨c0, c1, c2, c3, c4, c5, c6, c7, c8⟩ := Q5.out.cells.cells
        have oth : ∀ (j : Nat) (v : Value), j ≠ 8 → Y5.cell? ⟨g, j, none⟩ = some v → (Y5.setCell ⟨g, 8, none⟩ (.slice Ab (n - q) cb)).cell? ⟨g, j, none⟩ = some v := fun j v hj hv => by
          rw [World.cell?_setCell_other Y5 _ _ _ (fun e => hj (by injection e with _ e; omega))]; exact hv
        have d0 := oth 0 _ (by decide) c0
        have d1 := oth 1 _ (by decide) c1
        have d2 := oth 2 _ (by decide) c2
        have d3 := oth 3 _ (by decide) c3
        have d4 := oth 4 _ (by decide) c4
        have d5 := oth 5 _ (by decide) c5
        have d6 := oth 6 _ (by decide) c6
        have d7 := oth 7 _ (by decide) c7
        have d8 : (Y5.setCell ⟨g, 8, none⟩ (.slice Ab (n - q) cb)).cell? ⟨g, 8, none⟩ = some (.slice Ab (n - q) cb) := World.cell?_setCell_same Y5 _ _ c8
        have OF : Hid (OsF (Y5.setCell ⟨g, 8, none⟩ (.slice Ab (n - q) cb)) (g + 1) (Y5.setCell ⟨g, 8, none⟩ (.slice Ab (n - q) cb)).heap.size Ao acc) := Go.Lib.hid (by rw [World.size_setCell]; exact ((HO4.out.below hb5).more hb5.size).set (Nat.lt_succ_self _) _ _)
        have BF : Hid (BsF (Y5.setCell ⟨g, 8, none⟩ (.slice Ab (n - q) cb)) wr.heap.size (Y5.setCell ⟨g, 8, none⟩ (.slice Ab (n - q) cb)).heap.size Ab (l.drop q)) := Go.Lib.hid (by rw [World.size_setCell]; exact (BsF.of hgb.bs (fun _ ad e => hgb.fresh ad e)).set hgwr _ _)
        have hlen := hgb.len
        have hcap := hgb.cap
        have hnil := hgb.nil
        rw [HDL.out] at hlen
        have HNIL := Go.Lib.hid hnil
        dsimp only [tq] at d0 d1 d2 d3 d4 d5 d6 d7
        clear c0 c1 c2 c3 c4 c5 c6 c7 c8 oth p8 f8 Q5 HQ hgb hb5 hown5 x5 x3 hnil HO4 HDB HDN
        generalize Y5.setCell ⟨g, 8, none⟩ (.slice Ab (n - q) cb) = Y6 at *
        obtain ⟨⟨z0, z1, z2, z3, z4, z5, z6, z7, z8⟩, zf⟩ := zt_of y6
        have yF := Zt.below y6
        have hgne : g ≠ w.heap.size := by omega
        have HV : (.agg #[.int .i64 (wd l 0), .int .i64 (wd l 2), .int .u32 (ad4 l 4), .int .u32 (ad4 l 8), .int .i64 (g8 l 13), .int .i64 (wd l 14), .int .i64 (wd l 18), .slice Ao acc.length co, .slice Ab (n - q) cb] : Value) = tcV (rdT l q acc) Ao co Ab cb := by
          have e1 := HDL.out
          rw [← e1]
          rfl
        have HV' := Go.Lib.hid HV
        have HG : Hid (GivT w (set9 Y6 w.heap.size (.int .i64 (wd l 0)) (.int .i64 (wd l 2)) (.int .u32 (ad4 l 4)) (.int .u32 (ad4 l 8)) (.int .i64 (g8 l 13)) (.int .i64 (wd l 14)) (.int .i64 (wd l 18)) (.slice Ao acc.length co) (.slice Ab (n - q) cb)) (rdT l q acc) Ao co Ab cb) := by
          refine Go.Lib.hid ⟨?_, below_s9 yF (Nat.le_refl _) _ _ _ _ _ _ _ _ _⟩
          rw [size_s9]
          exact ⟨ad4_lo l 4, ad4_hi l 4, ad4_lo l 8, ad4_hi l 8, o1, o2, HO3.out, (OF.out.set9 (by omega) _ _ _ _ _ _ _ _ _).os, by show (l.drop q).length ≤ cb; rw [HDL.out]; exact hlen, hcap, HNIL.out, (BF.out.set9 (by omega) _ _ _ _ _ _ _ _ _).bs⟩
        clear y6 yF HV OF BF
        go_wp2
        all_goals
          refine bodyPost_ret (v := .tuple #[.agg #[.int .i64 (wd l 0), .int .i64 (wd l 2), .int .u32 (ad4 l 4), .int .u32 (ad4 l 8), .int .i64 (g8 l 13), .int .i64 (wd l 14), .int .i64 (wd l 18), .slice Ao acc.length co, .slice Ab (n - q) cb], .int .i64 0]) ?_ rfl (parsT_ok HP2.out (by rw [HV'.out]) HG.out)
          simp [results, Try.results24, go_sem, z0, z1, z2, z3, z4, z5, z6, z7, z8]
end Go.Proofs.Ytmgkkgpdnopeaaa
