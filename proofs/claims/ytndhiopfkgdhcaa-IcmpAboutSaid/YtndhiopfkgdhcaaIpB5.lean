/- The contract of the document's own Parse for package ip, where the lengths fit. -/
import Derived.Test.YtndhiopfkgdhcaaIpB4
import Derived.Test.YtndhiopfkgdhcaaIpA7
namespace Go.Proofs.Ytndhiopfkgdhcaa
open Go.ChangeShapes Go.WideShapes Go.ChangeAt Go.RowKit
set_option linter.unusedVariables false

theorem below_al {a w : World} (h : Below a.heap.size a w) (o : Obj) : Below a.heap.size a (w.alloc o) := h.alloc h.size o
theorem rpS {w w2 w' : World} {ad : Addr} {gw : Nat} {x y z u : Value} (hlt : ad.block < w.heap.size) (h2 : Below w.heap.size w w2) (hg : gw < w2.heap.size) (c1 : w.cell? ⟨ad.block, ad.off + 1, none⟩ = some x) (c8 : w.cell? ⟨ad.block, ad.off + 8, none⟩ = some y) (c9 : w.cell? ⟨ad.block, ad.off + 9, none⟩ = some z) (cw : w2.cell? ⟨gw, 2, none⟩ = some u) (hb : Below w2.heap.size w2 w') :
    w'.cell? ⟨ad.block, ad.off + 1, none⟩ = some x ∧ w'.cell? ⟨ad.block, ad.off + 8, none⟩ = some y ∧ w'.cell? ⟨ad.block, ad.off + 9, none⟩ = some z ∧ w'.cell? ⟨gw, 2, none⟩ = some u ∧ Below w2.heap.size w2 w' := by
  have hz := h2.size
  have hb' := h2.trans (hb.mono hz)
  exact ⟨(hb'.cell (p := ⟨ad.block, ad.off + 1, none⟩) hlt).trans c1, (hb'.cell (p := ⟨ad.block, ad.off + 8, none⟩) hlt).trans c8, (hb'.cell (p := ⟨ad.block, ad.off + 9, none⟩) hlt).trans c9, (hb.cell (p := ⟨gw, 2, none⟩) hg).trans cw, hb⟩
theorem rdP_take (l : List UInt8) (k : Nat) (b : List UInt8) (h0 : 20 ≤ k) (h1 : k ≤ l.length) : rdP (l.take k) b = ⟨g8 l 1, wd l 4, decide (wd l 6 / 16384 % 2 = 1), decide (wd l 6 / 8192 % 2 = 1), wd l 6 % 8192 * 8, g8 l 8, g8 l 9, wd l 12 * 65536 + wd l 14, wd l 16 * 65536 + wd l 18, (l.take k).drop 20, b⟩ := by
  have t : ∀ i, i < 20 → g8 (l.take k) i = g8 l i := by
    intro i hi
    rw [g8_at _ i (by rw [List.length_take]; omega), g8_at l i (by omega), List.getElem_take]
  have tw : ∀ i, i < 19 → wd (l.take k) i = wd l i := by
    intro i hi
    unfold wd; rw [t i (by omega), t (i + 1) (by omega)]
  unfold rdP ad4
  rw [t 1 (by omega), tw 4 (by omega), tw 6 (by omega), t 8 (by omega), t 9 (by omega), tw 12 (by omega), tw (12 + 2) (by omega), tw 16 (by omega), tw (16 + 2) (by omega)]
/-- eleven cells that are known. -/
structure C11 (Y : World) (g : Nat) (v0 v1 v2 v3 v4 v5 v6 v7 v8 v9 v10 : Value) : Prop where
  c0 : Y.cell? ⟨g, 0, none⟩ = some v0
  c1 : Y.cell? ⟨g, 1, none⟩ = some v1
  c2 : Y.cell? ⟨g, 2, none⟩ = some v2
  c3 : Y.cell? ⟨g, 3, none⟩ = some v3
  c4 : Y.cell? ⟨g, 4, none⟩ = some v4
  c5 : Y.cell? ⟨g, 5, none⟩ = some v5
  c6 : Y.cell? ⟨g, 6, none⟩ = some v6
  c7 : Y.cell? ⟨g, 7, none⟩ = some v7
  c8 : Y.cell? ⟨g, 8, none⟩ = some v8
  c9 : Y.cell? ⟨g, 9, none⟩ = some v9
  c10 : Y.cell? ⟨g, 10, none⟩ = some v10
theorem cell_set_other {Y : World} {b g i j : Nat} {v : Value} (u : Value) (h : Y.cell? ⟨b, i, none⟩ = some v) (hne : b ≠ g ∨ i ≠ j) : (Y.setCell ⟨g, j, none⟩ u).cell? ⟨b, i, none⟩ = some v := by
  rw [World.cell?_setCell_other Y ⟨g, j, none⟩ ⟨b, i, none⟩ u (by intro e; injection e with e1 e2; omega)]; exact h
theorem cell_set_same {Y : World} {g j : Nat} {v : Value} (u : Value) (h : Y.cell? ⟨g, j, none⟩ = some v) : (Y.setCell ⟨g, j, none⟩ u).cell? ⟨g, j, none⟩ = some u := by
  simp [go_sem, h]
section
variable {Y Y' : World} {g B : Nat} {v0 v1 v2 v3 v4 v5 v6 v7 v8 v9 v10 : Value}
theorem C11.keep (h : C11 Y g v0 v1 v2 v3 v4 v5 v6 v7 v8 v9 v10) (hb : Below B Y Y') (hg : g < B) : C11 Y' g v0 v1 v2 v3 v4 v5 v6 v7 v8 v9 v10 :=
  ⟨(hb.cell (p := ⟨g, 0, none⟩) hg).trans h.c0, (hb.cell (p := ⟨g, 1, none⟩) hg).trans h.c1, (hb.cell (p := ⟨g, 2, none⟩) hg).trans h.c2, (hb.cell (p := ⟨g, 3, none⟩) hg).trans h.c3, (hb.cell (p := ⟨g, 4, none⟩) hg).trans h.c4, (hb.cell (p := ⟨g, 5, none⟩) hg).trans h.c5, (hb.cell (p := ⟨g, 6, none⟩) hg).trans h.c6, (hb.cell (p := ⟨g, 7, none⟩) hg).trans h.c7, (hb.cell (p := ⟨g, 8, none⟩) hg).trans h.c8, (hb.cell (p := ⟨g, 9, none⟩) hg).trans h.c9, (hb.cell (p := ⟨g, 10, none⟩) hg).trans h.c10⟩
theorem C11.drew (h : C11 Y g v0 v1 v2 v3 v4 v5 v6 v7 v8 v9 v10) : C11 Y.drew g v0 v1 v2 v3 v4 v5 v6 v7 v8 v9 v10 := ⟨h.c0, h.c1, h.c2, h.c3, h.c4, h.c5, h.c6, h.c7, h.c8, h.c9, h.c10⟩
theorem C11.set7 (h : C11 Y g v0 v1 v2 v3 v4 v5 v6 v7 v8 v9 v10) (u : Value) : C11 (Y.setCell ⟨g, 7, none⟩ u) g v0 v1 v2 v3 v4 v5 v6 u v8 v9 v10 :=
  ⟨cell_set_other u h.c0 (.inr (by omega)), cell_set_other u h.c1 (.inr (by omega)), cell_set_other u h.c2 (.inr (by omega)), cell_set_other u h.c3 (.inr (by omega)), cell_set_other u h.c4 (.inr (by omega)), cell_set_other u h.c5 (.inr (by omega)), cell_set_other u h.c6 (.inr (by omega)), cell_set_same u h.c7, cell_set_other u h.c8 (.inr (by omega)), cell_set_other u h.c9 (.inr (by omega)), cell_set_other u h.c10 (.inr (by omega))⟩
theorem C11.set8 (h : C11 Y g v0 v1 v2 v3 v4 v5 v6 v7 v8 v9 v10) (u : Value) : C11 (Y.setCell ⟨g, 8, none⟩ u) g v0 v1 v2 v3 v4 v5 v6 v7 u v9 v10 :=
  ⟨cell_set_other u h.c0 (.inr (by omega)), cell_set_other u h.c1 (.inr (by omega)), cell_set_other u h.c2 (.inr (by omega)), cell_set_other u h.c3 (.inr (by omega)), cell_set_other u h.c4 (.inr (by omega)), cell_set_other u h.c5 (.inr (by omega)), cell_set_other u h.c6 (.inr (by omega)), cell_set_other u h.c7 (.inr (by omega)), cell_set_same u h.c8, cell_set_other u h.c9 (.inr (by omega)), cell_set_other u h.c10 (.inr (by omega))⟩
theorem C11.set9 (h : C11 Y g v0 v1 v2 v3 v4 v5 v6 v7 v8 v9 v10) (u : Value) : C11 (Y.setCell ⟨g, 9, none⟩ u) g v0 v1 v2 v3 v4 v5 v6 v7 v8 u v10 :=
  ⟨cell_set_other u h.c0 (.inr (by omega)), cell_set_other u h.c1 (.inr (by omega)), cell_set_other u h.c2 (.inr (by omega)), cell_set_other u h.c3 (.inr (by omega)), cell_set_other u h.c4 (.inr (by omega)), cell_set_other u h.c5 (.inr (by omega)), cell_set_other u h.c6 (.inr (by omega)), cell_set_other u h.c7 (.inr (by omega)), cell_set_other u h.c8 (.inr (by omega)), cell_set_same u h.c9, cell_set_other u h.c10 (.inr (by omega))⟩
theorem C11.set10 (h : C11 Y g v0 v1 v2 v3 v4 v5 v6 v7 v8 v9 v10) (u : Value) : C11 (Y.setCell ⟨g, 10, none⟩ u) g v0 v1 v2 v3 v4 v5 v6 v7 v8 v9 u :=
  ⟨cell_set_other u h.c0 (.inr (by omega)), cell_set_other u h.c1 (.inr (by omega)), cell_set_other u h.c2 (.inr (by omega)), cell_set_other u h.c3 (.inr (by omega)), cell_set_other u h.c4 (.inr (by omega)), cell_set_other u h.c5 (.inr (by omega)), cell_set_other u h.c6 (.inr (by omega)), cell_set_other u h.c7 (.inr (by omega)), cell_set_other u h.c8 (.inr (by omega)), cell_set_other u h.c9 (.inr (by omega)), cell_set_same u h.c10⟩
end

/-- behind the head's plain parts: the packet lies at slot 8. -/
def Mid13 (l : List UInt8) (w2 : World) (s : Value) (Y : World) : Prop := ∃ g : Nat, s = .pointer (some ⟨g, 0, none⟩) ∧ w2.heap.size ≤ g ∧ g < Y.heap.size ∧ Below w2.heap.size w2 Y ∧ (∀ o, Y.frozen? ⟨g, o, none⟩ = false) ∧
  Y.cell? ⟨g, 0, none⟩ = some (.int .i64 (g8 l 1)) ∧ Y.cell? ⟨g, 1, none⟩ = some (.int .i64 (wd l 4)) ∧ Y.cell? ⟨g, 2, none⟩ = some (.bool (decide (wd l 6 / 16384 % 2 = 1))) ∧ Y.cell? ⟨g, 3, none⟩ = some (.bool (decide (wd l 6 / 8192 % 2 = 1))) ∧ Y.cell? ⟨g, 4, none⟩ = some (.int .i64 (wd l 6 % 8192 * 8)) ∧ Y.cell? ⟨g, 5, none⟩ = some (.int .i64 (g8 l 8)) ∧ Y.cell? ⟨g, 6, none⟩ = some (.int .i64 (g8 l 9)) ∧ Y.cell? ⟨g, 7, none⟩ = some (.int .u32 0) ∧ Y.cell? ⟨g, 8, none⟩ = some (.int .u32 0) ∧ Y.cell? ⟨g, 9, none⟩ = some (.slice none 0 0) ∧ Y.cell? ⟨g, 10, none⟩ = some (.slice none 0 0)

set_option maxRecDepth 1000000 in
set_option maxHeartbeats 4000000 in
theorem rparseC (A : Option Addr) (n c : Nat) (l : List UInt8) (w : World) (hn : l.length = n) (h : Bs w w.heap.size A l) (hn2 : n ≤ 16777216) (hnc : n ≤ c) (hM : measE l = 0) :
    Calls Try.prog 46 #[.slice A n c] w (Parsed w l) := by
  obtain ⟨i0, hi, hz0, hz1, hz2⟩ := info_parts info_byte
  obtain ⟨m1, m2, m3, m4, m5⟩ := meas_ok l hM
  have HPO := Go.Lib.hid (prs_ok l hM)
  obtain ⟨ad, rfl, hlt, hcell⟩ := g8_cells h (by omega)
  obtain ⟨k, hk⟩ : ∃ k : Nat, (k : Int) = headN l := ⟨(headN l).toNat, by omega⟩
  obtain ⟨q, hq⟩ : ∃ q : Nat, (q : Int) = wd l 2 := ⟨(wd l 2).toNat, by omega⟩
  have ek : (headN l).toNat = k := by omega
  have eq : (wd l 2).toNat = q := by omega
  have h3 : g8 l 0 / 16 = 4 := by
    unfold measE at hM
    rw [if_neg (by omega)] at hM
    by_cases h : g8 l 0 / 16 ≠ 4 ∨ headN l < 20 ∨ (l.length : Int) < headN l
    · rw [if_pos h] at hM; cases hM
    · omega
  have HP : Hid (prs l = if fo (tot (l.take k)) ≠ 65535 then (5, Pk.empty) else if 32768 ≤ wd l 6 ∨ fitsB (rdP (l.take k) ((l.take q).drop k)) = false then (7, Pk.empty) else (0, rdP (l.take k) ((l.take q).drop k))) := Go.Lib.hid (by rw [HPO.out, ek, eq])
  have HH : Hid (g8 l 0 % 16 * 4 = (k : Int)) := Go.Lib.hid (by rw [hk]; rfl)
  have hh : g8 l 0 % 16 * 4 = (k : Int) := HH.out
  have HL : Hid ((l.take k).length = k) := Go.Lib.hid (by rw [List.length_take]; omega)
  have HL20 : Hid ((l.take 20).length = 20) := Go.Lib.hid (by rw [List.length_take]; omega)
  have HLo : Hid (((l.take k).drop 20).length = k - 20) := Go.Lib.hid (by rw [List.length_drop, List.length_take]; omega)
  have HLb : Hid (((l.take q).drop k).length = q - k) := Go.Lib.hid (by rw [List.length_drop, List.length_take]; omega)
  have k0 : 20 ≤ k := by omega
  have k1 : k ≤ n := by omega
  have k5 : k ≤ q := by omega
  have k7 : q ≤ n := by omega
  have HB := Go.Lib.hid h
  have HN := Go.Lib.hid hn
  have HQ := Go.Lib.hid hq
  have t1 : (g8 l 0 / 16 != 4) = false := by simpa using h3
  have b0 := g8_lo l 0
  have b1 := g8_hi l 0
  have hc0 : (Zw w).cell? ad = some (.int .u8 (g8 l 0)) := by
    have := hcell 0 (by omega)
    rw [add_zero] at this
    exact (World.cell?_alloc_lt w _ ad (by omega)).trans this
  have C1 : w.cell? ⟨ad.block, ad.off + 1, none⟩ = some (.int .u8 (g8 l 1)) := by have := hcell 1 (by omega); rwa [add_pos ad 1 (by omega)] at this
  have C8 : w.cell? ⟨ad.block, ad.off + 8, none⟩ = some (.int .u8 (g8 l 8)) := by have := hcell 8 (by omega); rwa [add_pos ad 8 (by omega)] at this
  have C9 : w.cell? ⟨ad.block, ad.off + 9, none⟩ = some (.int .u8 (g8 l 9)) := by have := hcell 9 (by omega); rwa [add_pos ad 9 (by omega)] at this
  have hC1 := Go.Lib.hid C1
  have hC8 := Go.Lib.hid C8
  have hC9 := Go.Lib.hid C9
  have x0 : Zb w (Zw w) := Below.refl _ _
  have y0 : Below w.heap.size w (Zw w) := Zw.below x0
  have i00 : 0 < n := by omega
  have i20 : (20 : Int) ≤ (c : Int) := by omega
  clear C1 C8 C9 hcell hM m1 m2 m3 m4 m5 hk hq ek eq h3 HPO h hn
  go_enter Try.func46, Try.ntmps46
  go_upto_region 1 with fail
  rw [zw_is]
  generalize Zw w = X at *
  go_wp2_with fail
  refine (rwords_n (some ad) 20 c (l.take 20) w.heap.size _ HL20.out ((HB.out.below y0).take 20) y0.size (by omega) (by omega)).mono ?_
  rintro e w1 ⟨v, rfl, hown, hb1⟩
  dsimp only
  obtain ⟨gw, cw, rfl, hgw1, hgw2, hw⟩ := words20 (by rw [HN.out]; omega) hown
  have x1 : Below (w.heap.size + 1) (Zw w) w1 := Below.trans (show Below _ _ _ from x0) (hb1.mono (Zw.size x0))
  have y1 := Zw.below x1
  have s0 := Zw.size (show Below _ _ _ from x0)
  have hgw3 : w.heap.size + 1 ≤ gw := Nat.le_trans s0 hgw1
  have hw1 : w1.cell? ⟨gw, 1, none⟩ = some (.int .u16 (q : Int)) := by rw [HQ.out]; exact hw 1 (by omega)
  have HW := Go.Lib.hid hw
  have q1 := wd_hi l 2
  have hq1 := HQ.out
  have l1 : (k : Int) ≤ (q : Int) := by omega
  have l2 : (q : Int) ≤ (n : Int) := by omega
  have l3 : (q : Int) ≤ 65535 := by omega
  have l4 : (k : Int) ≤ (c : Int) := by omega
  clear hw hown hb1 x0 y0 hc0 hq1 q1 s0 hgw1
  go_wp2_with fail
  refine (rsum_n (some ad) k c (l.take k) w.heap.size _ HL.out ((HB.out.below y1).take k) y1.size (by omega) (by omega)).mono ?_
  rintro e w2 ⟨rfl, hb2⟩
  have x2 : Below (w.heap.size + 1) (Zw w) w2 := Below.trans x1 (hb2.mono (Zw.size x1))
  have y2 := Zw.below x2
  have hw : ∀ j, j < 10 → w2.cell? ⟨gw, j, none⟩ = some (.int .u16 (wd l (2 * j))) := fun j hj => cells_keep hb2 hgw2 (HW.out j hj)
  have HW2 := Go.Lib.hid hw
  have hgw4 : gw < w2.heap.size := Nat.lt_of_lt_of_le hgw2 hb2.size
  clear hw hb2 HW hw1 x1 y1 hgw2
  dsimp only
  by_cases hS : fo (tot (l.take k)) = 65535
  · have HP2 : Hid (prs l = if 32768 ≤ wd l 6 ∨ fitsB (rdP (l.take k) ((l.take q).drop k)) = false then (7, Pk.empty) else (0, rdP (l.take k) ((l.take q).drop k))) := Go.Lib.hid (by rw [HP.out, if_neg (by simpa using hS)])
    rw [hS]
    clear hS HP
    have hw3 : w2.cell? ⟨gw, 3, none⟩ = some (.int .u16 (wd l 6)) := HW2.out 3 (by omega)
    have b6 := wd_lo l 6
    have b7 := wd_hi l 6
    have e6 := IntWalk.i64_in (wd l 6) (by omega)
    go_upto_region 13 with fail
    have r1 := IntWalk.i64_in (g8 l 1) (by have := g8_lo l 1; have := g8_hi l 1; omega)
    have r8 := IntWalk.i64_in (g8 l 8) (by have := g8_lo l 8; have := g8_hi l 8; omega)
    have r9 := IntWalk.i64_in (g8 l 9) (by have := g8_lo l 9; have := g8_hi l 9; omega)
    have r4 := IntWalk.i64_in (wd l 4) (by have := wd_lo l 4; have := wd_hi l 4; omega)
    have r6 := IntWalk.i64_in (wd l 6 % 8192 * 8) (by omega)
    have D1 : IntKind.i64.wrap ((wd l 6).tdiv 16384) = wd l 6 / 16384 := IntWalk.i64_quo _ _ ⟨b6, by omega, by omega⟩
    have D2 : IntKind.i64.wrap ((wd l 6).tdiv 8192) = wd l 6 / 8192 := IntWalk.i64_quo _ _ ⟨b6, by omega, by omega⟩
    have D3 : (wd l 6 / 16384).tmod 2 = wd l 6 / 16384 % 2 := IntWalk.rem_in _ _ (by omega)
    have D4 : (wd l 6 / 8192).tmod 2 = wd l 6 / 8192 % 2 := IntWalk.rem_in _ _ (by omega)
    have D5 : (wd l 6).tmod 8192 = wd l 6 % 8192 := IntWalk.rem_in _ _ b6
    have i1 : (1 : Int) < (n : Int) := by omega
    have i8 : (8 : Int) < (n : Int) := by omega
    have i9 : (9 : Int) < (n : Int) := by omega
    have hw2 : w2.cell? ⟨gw, 2, none⟩ = some (.int .u16 (wd l 4)) := HW2.out 2 (by omega)
    go_cut [8] (fun s wx => Mid13 l w2 s wx)
    case first =>
      go_region_held3 (fun w' => w'.cell? ⟨ad.block, ad.off + 1, none⟩ = some (.int .u8 (g8 l 1)) ∧ w'.cell? ⟨ad.block, ad.off + 8, none⟩ = some (.int .u8 (g8 l 8)) ∧ w'.cell? ⟨ad.block, ad.off + 9, none⟩ = some (.int .u8 (g8 l 9)) ∧ w'.cell? ⟨gw, 2, none⟩ = some (.int .u16 (wd l 4)) ∧ Below w2.heap.size w2 w')
        (exact rpS hlt y2 hgw4 hC1.out hC8.out hC9.out hw2 (by repeat (with_reducible first | exact Below.refl _ _ | refine below_drew ?_ | refine below_al ?_ _)))
        (first | skip)
      go_wp2_with fail
      go_meet
      refine ⟨w2.heap.size, rfl, Nat.le_refl _, by simp, below_drew ((Below.refl _ _).alloc (Nat.le_refl _) _), fun o => by simp [go_sem], ?_, ?_, ?_, ?_, ?_, ?_, ?_, ?_, ?_, ?_, ?_⟩ <;> (simp [go_sem] <;> rfl)
    case rest =>
    obtain ⟨g, rfl, hg1, hg2, hbY, hzf, p0, p1, p2, p3, p4, p5, p6, p7, p8, p9, p10⟩ := hcut
    clear D1 D2 D3 D4 D5 r1 r4 r6 r8 r9 i1 i8 i9 hw2 hw3 e6
    have hx : Below (w.heap.size + 1) (Zw w) wc := Below.trans x2 (hbY.mono (Zw.size x2))
    have hw6 : wc.cell? ⟨gw, 6, none⟩ = some (.int .u16 (wd l 12)) := cells_keep hbY hgw4 (HW2.out 6 (by omega))
    have hw7 : wc.cell? ⟨gw, 7, none⟩ = some (.int .u16 (wd l 14)) := cells_keep hbY hgw4 (HW2.out 7 (by omega))
    have hw8 : wc.cell? ⟨gw, 8, none⟩ = some (.int .u16 (wd l 16)) := cells_keep hbY hgw4 (HW2.out 8 (by omega))
    have hw9 : wc.cell? ⟨gw, 9, none⟩ = some (.int .u16 (wd l 18)) := cells_keep hbY hgw4 (HW2.out 9 (by omega))
    have hgg : gw ≠ g := by omega
    have hgg' : g ≠ gw := by omega
    have sx := Zw.size x2
    clear x2 y2 HW2 hbY
    generalize wc = Y at *
    have B12 : 0 ≤ wd l 12 ∧ wd l 12 ≤ 65535 := ⟨wd_lo l 12, wd_hi l 12⟩
    have B14 : 0 ≤ wd l 14 ∧ wd l 14 ≤ 65535 := ⟨wd_lo l 14, wd_hi l 14⟩
    have B16 : 0 ≤ wd l 16 ∧ wd l 16 ≤ 65535 := ⟨wd_lo l 16, wd_hi l 16⟩
    have B18 : 0 ≤ wd l 18 ∧ wd l 18 ≤ 65535 := ⟨wd_lo l 18, wd_hi l 18⟩
    have E1 := IntWalk.u32_in (wd l 12) (by omega)
    have E2 := IntWalk.u32_in (wd l 14) (by omega)
    have E3 := IntWalk.u32_in (wd l 12 * 65536) (by omega)
    have E4 := IntWalk.u32_in (wd l 12 * 65536 + wd l 14) (by omega)
    have E5 := IntWalk.u32_in (wd l 16) (by omega)
    have E6 := IntWalk.u32_in (wd l 18) (by omega)
    have E7 := IntWalk.u32_in (wd l 16 * 65536) (by omega)
    have E8 := IntWalk.u32_in (wd l 16 * 65536 + wd l 18) (by omega)
    have cc : C11 Y g (.int .i64 (g8 l 1)) (.int .i64 (wd l 4)) (.bool (decide (wd l 6 / 16384 % 2 = 1))) (.bool (decide (wd l 6 / 8192 % 2 = 1))) (.int .i64 (wd l 6 % 8192 * 8)) (.int .i64 (g8 l 8)) (.int .i64 (g8 l 9)) (.int .u32 0) (.int .u32 0) (.slice none 0 0) (.slice none 0 0) := ⟨p0, p1, p2, p3, p4, p5, p6, p7, p8, p9, p10⟩
    clear p0 p1 p2 p3 p4 p5 p6 p9 p10
    go_upto_region 14 with fail
    go_still_tail 11, (by kernel_rfl)
    change wpList _ _ _ _ _ Y.drew
    replace p7 : Y.drew.cell? ⟨g, 7, none⟩ = _ := p7
    replace hzf : ∀ o, Y.drew.frozen? ⟨g, o, none⟩ = false := hzf
    have cc1 := (C11.set7 cc (.int .u32 (wd l 12 * 65536 + wd l 14))).drew
    have hx1 := below_drew (Below.setCell hx (p := ⟨g, 7, none⟩) (show w.heap.size + 1 ≤ g by omega) (.int .u32 (wd l 12 * 65536 + wd l 14)))
    have hw8' : (Y.setCell ⟨g, 7, none⟩ (.int .u32 (wd l 12 * 65536 + wd l 14))).drew.cell? ⟨gw, 8, none⟩ = _ := cell_set_other (g := g) (j := 7) (.int .u32 (wd l 12 * 65536 + wd l 14)) hw8 (.inl hgg)
    have hw9' : (Y.setCell ⟨g, 7, none⟩ (.int .u32 (wd l 12 * 65536 + wd l 14))).drew.cell? ⟨gw, 9, none⟩ = _ := cell_set_other (g := g) (j := 7) (.int .u32 (wd l 12 * 65536 + wd l 14)) hw9 (.inl hgg)
    have hzf' : ∀ o, (Y.setCell ⟨g, 7, none⟩ (.int .u32 (wd l 12 * 65536 + wd l 14))).drew.frozen? ⟨g, o, none⟩ = false := fun o => by show (Y.setCell ⟨g, 7, none⟩ _).frozen? _ = false; rw [World.frozen?_setCell]; exact hzf o
    have hgs : g < (Y.setCell ⟨g, 7, none⟩ (.int .u32 (wd l 12 * 65536 + wd l 14))).drew.heap.size := by simp; exact hg2
    clear cc hx hw6 hw7 hw8 hw9 p8
    go_upto_region 15 with fail
    generalize (Y.setCell ⟨g, 7, none⟩ (.int .u32 (wd l 12 * 65536 + wd l 14))).drew = Y1 at *
    have p8 := cc1.c8
    clear hzf p7
    go_still_tail 11, (by kernel_rfl)
    change wpList _ _ _ _ _ Y1.drew
    replace p8 : Y1.drew.cell? ⟨g, 8, none⟩ = _ := p8
    replace hzf' : ∀ o, Y1.drew.frozen? ⟨g, o, none⟩ = false := hzf'
    have cc2 := (C11.set8 cc1 (.int .u32 (wd l 16 * 65536 + wd l 18))).drew
    have hx2 := below_drew (Below.setCell hx1 (p := ⟨g, 8, none⟩) (show w.heap.size + 1 ≤ g by omega) (.int .u32 (wd l 16 * 65536 + wd l 18)))
    have hzf2 : ∀ o, (Y1.setCell ⟨g, 8, none⟩ (.int .u32 (wd l 16 * 65536 + wd l 18))).drew.frozen? ⟨g, o, none⟩ = false := fun o => by show (Y1.setCell ⟨g, 8, none⟩ _).frozen? _ = false; rw [World.frozen?_setCell]; exact hzf' o
    have hgs2 : g < (Y1.setCell ⟨g, 8, none⟩ (.int .u32 (wd l 16 * 65536 + wd l 18))).drew.heap.size := by simp; exact hgs
    clear cc1 hx1 hw8' hw9'
    go_upto_region 16 with fail
    generalize (Y1.setCell ⟨g, 8, none⟩ (.int .u32 (wd l 16 * 65536 + wd l 18))).drew = Y2 at *
    clear hzf' p8 hgs E1 E2 E3 E4 E5 E6 E7 E8 B12 B14 B16 B18
    have p9 := cc2.c9
    have y2 := Zw.below hx2
    have HBo : Hid (Bs w w.heap.size (if c = 20 then (some ad : Option Addr) else some { block := ad.block, off := ad.off + 20 }) ((l.take k).drop 20)) := Go.Lib.hid ((HB.out.take k).cut 20 c (by rw [List.length_take]; omega) (by omega))
    have HNo : Hid ((if c = 20 then (some ad : Option Addr) else some { block := ad.block, off := ad.off + 20 }) = none → c - 20 = 0) := Go.Lib.hid (fun h => by split at h <;> cases h)
    have j1 : (20 : Int) ≤ (k : Int) := by omega
    have j2 : (k : Int) ≤ (c : Int) := by omega
    have j3 : k - 20 ≤ 16777216 := by omega
    go_upto_region 17 with (at_builtin; refine wpList_copy_rd rfl _ _ 23 rfl 5 i0 (.int .u8 0) 1 Try.underlying23 hi hz0 hz1 hz2 rfl rfl w.heap.size _ (k - 20) (c - 20) (((l.take k).drop 20).map bv) rfl (by simpa using HLo.out) HNo.out (HBo.out.below y2).rd y2.size (bv_one _) (by unfold maxLen; omega) (by omega) ?_; intro vo Y3 hown3 hb3; obtain ⟨Ao, co, rfl, hgo⟩ := own_gives hown3 hb3; have cc3 := cc2.keep hb3 hgs2; have p9' := cc3.c9; have hzf3 : ∀ o, Y3.frozen? ⟨g, o, none⟩ = false := (fun o => (hb3.frozen (p := ⟨g, o, none⟩) hgs2).trans (hzf2 o)); clear p9)
    have f1 : ∀ ad, Ao = some ad → g ≠ ad.block := fun a e => by have := hgo.fresh a e; omega
    have hx3 := Below.trans hx2 (hb3.mono (Zw.size hx2))
    have cc4 := C11.set9 cc3 (.slice Ao (k - 20) co)
    have hx4 := Below.setCell hx3 (p := ⟨g, 9, none⟩) (show w.heap.size + 1 ≤ g by omega) (.slice Ao (k - 20) co)
    have hbo4 := (hgo.bs.far ⟨g, 9, none⟩ (.slice Ao (k - 20) co) f1).more (show _ ≤ (Y3.setCell ⟨g, 9, none⟩ (.slice Ao (k - 20) co)).heap.size by simp)
    have hzf4 : ∀ o, (Y3.setCell ⟨g, 9, none⟩ (.slice Ao (k - 20) co)).frozen? ⟨g, o, none⟩ = false := fun o => by rw [World.frozen?_setCell]; exact hzf3 o
    have hgs4 : g < (Y3.setCell ⟨g, 9, none⟩ (.slice Ao (k - 20) co)).heap.size := by have := hb3.size; simp; omega
    have q4 : ∀ ad, Ao = some ad → w.heap.size + 1 ≤ ad.block := fun a e => by have := hgo.fresh a e; omega
    have o1 := hgo.len
    have o2 := hgo.cap
    have o3 := hgo.nil
    clear hgo hown3 hb3 cc3 hx3 hzf3 p9' hx2 hzf2 hgs2 cc2 y2 HBo HNo
    generalize Y3.setCell ⟨g, 9, none⟩ (.slice Ao (k - 20) co) = Y4 at *
    have p10 := cc4.c10
    have y4 := Zw.below hx4
    have HBb : Hid (Bs w w.heap.size (if c = k then (some ad : Option Addr) else some (ad.add k)) ((l.take q).drop k)) := Go.Lib.hid (by rw [add_pos ad k (by omega)]; exact (HB.out.take q).cut k c (by rw [List.length_take]; omega) (by omega))
    have HNb : Hid ((if c = k then (some ad : Option Addr) else some (ad.add k)) = none → c - k = 0) := Go.Lib.hid (fun h => by split at h <;> cases h)
    have j5 : (q : Int) ≤ (c : Int) := by omega
    have j6 : q - k ≤ 16777216 := by omega
    go_upto_region 18 with (at_builtin; refine wpList_copy_rd rfl _ _ 23 rfl 5 i0 (.int .u8 0) 1 Try.underlying23 hi hz0 hz1 hz2 rfl rfl w.heap.size _ (q - k) (c - k) (((l.take q).drop k).map bv) rfl (by simpa using HLb.out) HNb.out (HBb.out.below y4).rd y4.size (bv_one _) (by unfold maxLen; omega) (by omega) ?_; intro vb Y5 hown5 hb5; obtain ⟨Ab, cb, rfl, hgb⟩ := own_gives hown5 hb5; have cc5 := cc4.keep hb5 hgs4; have p10' := cc5.c10; have hzf5 : ∀ o, Y5.frozen? ⟨g, o, none⟩ = false := (fun o => (hb5.frozen (p := ⟨g, o, none⟩) hgs4).trans (hzf4 o)); clear p10)
    clear HBb HNb
    generalize (if c = k then (some ad : Option Addr) else some (ad.add k)) = AA1
    generalize (if c = 20 then (some ad : Option Addr) else some { block := ad.block, off := ad.off + 20 }) = AA2
    have f2 : ∀ ad, Ab = some ad → g ≠ ad.block := fun a e => by have := hgb.fresh a e; omega
    have f1' : ∀ ad, Ao = some ad → g ≠ ad.block := f1
    have hx5 := Below.trans hx4 (hb5.mono (Zw.size hx4))
    have cc6 := C11.set10 cc5 (.slice Ab (q - k) cb)
    have hx6 := Below.setCell hx5 (p := ⟨g, 10, none⟩) (show w.heap.size + 1 ≤ g by omega) (.slice Ab (q - k) cb)
    have hbo6 := (((hbo4.below hb5).more hb5.size).far ⟨g, 10, none⟩ (.slice Ab (q - k) cb) f1').more (show _ ≤ (Y5.setCell ⟨g, 10, none⟩ (.slice Ab (q - k) cb)).heap.size by simp)
    have hbb6 := (hgb.bs.far ⟨g, 10, none⟩ (.slice Ab (q - k) cb) f2).more (show _ ≤ (Y5.setCell ⟨g, 10, none⟩ (.slice Ab (q - k) cb)).heap.size by simp)
    have hgs6 : g < (Y5.setCell ⟨g, 10, none⟩ (.slice Ab (q - k) cb)).heap.size := by have := hb5.size; simp; omega
    have r4 : ∀ ad, Ab = some ad → w.heap.size + 1 ≤ ad.block := fun a e => by have := hgb.fresh a e; omega
    have o4 := hgb.len
    have o5 := hgb.cap
    have o6 := hgb.nil
    clear hgb hown5 hb5 cc5 hx5 hzf5 p10' hx4 hzf4 hgs4 cc4 y4 hbo4
    generalize Y5.setCell ⟨g, 10, none⟩ (.slice Ab (q - k) cb) = Y at *
    have HV := rdP_take l k ((l.take q).drop k) k0 (by rw [HN.out]; exact k1)
    have e1 := HLo.out
    have e2 := HLb.out
    have hCC : C11 Y g (.int .i64 (rdP (l.take k) ((l.take q).drop k)).tos) (.int .i64 (rdP (l.take k) ((l.take q).drop k)).id) (.bool (rdP (l.take k) ((l.take q).drop k)).df) (.bool (rdP (l.take k) ((l.take q).drop k)).mf) (.int .i64 (rdP (l.take k) ((l.take q).drop k)).off) (.int .i64 (rdP (l.take k) ((l.take q).drop k)).ttl) (.int .i64 (rdP (l.take k) ((l.take q).drop k)).proto) (.int .u32 (rdP (l.take k) ((l.take q).drop k)).src) (.int .u32 (rdP (l.take k) ((l.take q).drop k)).dst) (.slice Ao (rdP (l.take k) ((l.take q).drop k)).opts.length co) (.slice Ab (rdP (l.take k) ((l.take q).drop k)).body.length cb) := by
      rw [HV]
      show C11 Y g _ _ _ _ _ _ _ _ _ (.slice Ao ((l.take k).drop 20).length co) (.slice Ab ((l.take q).drop k).length cb)
      rw [e1, e2]
      exact cc6
    have hbo : Bs Y Y.heap.size Ao (rdP (l.take k) ((l.take q).drop k)).opts := hbo6
    have hbb : Bs Y Y.heap.size Ab (rdP (l.take k) ((l.take q).drop k)).body := hbb6
    have q1 : (rdP (l.take k) ((l.take q).drop k)).opts.length ≤ co := o1
    have r1 : (rdP (l.take k) ((l.take q).drop k)).body.length ≤ cb := o4
    have ho1 : (rdP (l.take k) ((l.take q).drop k)).opts.length ≤ 16777216 := by show ((l.take k).drop 20).length ≤ _; rw [e1]; exact j3
    have ho2 : (rdP (l.take k) ((l.take q).drop k)).body.length ≤ 16777216 := by show ((l.take q).drop k).length ≤ _; rw [e2]; exact j6
    have hf0 : 0 ≤ (rdP (l.take k) ((l.take q).drop k)).off := by rw [HV]; show 0 ≤ wd l 6 % 8192 * 8; omega
    have hf1 : (rdP (l.take k) ((l.take q).drop k)).off ≤ 65528 := by rw [HV]; show wd l 6 % 8192 * 8 ≤ 65528; omega
    clear HV e1 e2 cc6 hbo6 hbb6 o1 o4 HLo HLb
    generalize rdP (l.take k) ((l.take q).drop k) = p at *
    obtain ⟨c0, c1, c2, c3, c4, c5, c6, c7, c8, c9, c10⟩ := hCC
    by_cases hi6 : 32768 ≤ wd l 6
    · have HP7 : Hid (prs l = (7, Pk.empty)) := Go.Lib.hid (by rw [HP2.out, if_pos (.inl hi6)])
      have y5 := Zw.below hx6
      obtain ⟨⟨z0, z1, z2, z3, z4, z5, z6, z7, z8, z9, z10⟩, zf⟩ := zx_of hx6
      clear HP2 c0 c1 c2 c3 c4 c5 c6 c7 c8 c9 c10 hbo hbb hx6
      go_wp2
      refine bodyPost_ret (v := .tuple #[.agg #[.int .i64 0, .int .i64 0, .bool false, .bool false, .int .i64 0, .int .i64 0, .int .i64 0, .int .u32 0, .int .u32 0, .slice none 0 0, .slice none 0 0], .int .i64 7]) ?_ rfl ⟨none, 0, none, 0, by rw [HP7.out]; rfl, ?_⟩
      · simp [results, Try.results46, go_sem, z0, z1, z2, z3, z4, z5, z6, z7, z8, z9, z10]
      · rw [HP7.out]
        exact gives_empty (below_set11 y5 _ _ _ _ _ _ _ _ _ _ _)
    · have hi6' : wd l 6 < 32768 := by omega
      have HI := Go.Lib.hid hi6
      clear hi6
      go_wp2_with fail
      refine (rfits p Ao co Ab cb _ ho1 ho2 hf0 hf1).mono ?_
      rintro e w5 ⟨rfl, hb5⟩
      have hx3 := hx6.trans (hb5.mono (Zw.size hx6))
      have d0 := cells_keep hb5 hgs6 c0
      have d1 := cells_keep hb5 hgs6 c1
      have d2 := cells_keep hb5 hgs6 c2
      have d3 := cells_keep hb5 hgs6 c3
      have d4 := cells_keep hb5 hgs6 c4
      have d5 := cells_keep hb5 hgs6 c5
      have d6 := cells_keep hb5 hgs6 c6
      have d7 := cells_keep hb5 hgs6 c7
      have d8 := cells_keep hb5 hgs6 c8
      have d9 := cells_keep hb5 hgs6 c9
      have d10 := cells_keep hb5 hgs6 c10
      have hbo5 := (hbo.below hb5).more hb5.size
      have hbb5 := (hbb.below hb5).more hb5.size
      have y5 := Zw.below hx3
      obtain ⟨⟨z0, z1, z2, z3, z4, z5, z6, z7, z8, z9, z10⟩, zf⟩ := zx_of hx3
      clear c0 c1 c2 c3 c4 c5 c6 c7 c8 c9 c10 hb5 hx6 hx3 hbo hbb
      by_cases hfit : fitsB p = true
      · have HP0 : Hid (prs l = (0, p)) := Go.Lib.hid (by rw [HP2.out, if_neg (by rw [hfit]; simp; have := HI.out; omega)])
        rw [hfit]
        dsimp only
        clear hfit HP2
        go_wp2
        refine bodyPost_ret (v := .tuple #[.agg #[.int .i64 p.tos, .int .i64 p.id, .bool p.df, .bool p.mf, .int .i64 p.off, .int .i64 p.ttl, .int .i64 p.proto, .int .u32 p.src, .int .u32 p.dst, .slice Ao p.opts.length co, .slice Ab p.body.length cb], .int .i64 0]) ?_ rfl ⟨Ao, co, Ab, cb, by rw [HP0.out], ?_⟩
        · simp [results, Try.results46, go_sem, z0, z1, z2, z3, z4, z5, z6, z7, z8, z9, z10]
        · rw [HP0.out]
          exact ⟨q1, o2, o3, (bs_set11 hbo5 (fun ad e => by have := q4 ad e; omega) _ _ _ _ _ _ _ _ _ _ _).more (by rw [size_set11]; exact Nat.le_refl _), fun ad e => by have := q4 ad e; omega, r1, o5, o6, (bs_set11 hbb5 (fun ad e => by have := r4 ad e; omega) _ _ _ _ _ _ _ _ _ _ _).more (by rw [size_set11]; exact Nat.le_refl _), fun ad e => by have := r4 ad e; omega, below_set11 y5 _ _ _ _ _ _ _ _ _ _ _⟩
      · have hfit' : fitsB p = false := by simpa using hfit
        have HP7 : Hid (prs l = (7, Pk.empty)) := Go.Lib.hid (by rw [HP2.out, if_pos (.inr hfit')])
        rw [hfit']
        dsimp only
        clear hfit hfit' HP2 d0 d1 d2 d3 d4 d5 d6 d7 d8 d9 d10 q1 q4 r1 r4 o2 o3 o5 o6 ho1 ho2 hf0 hf1 hbo5 hbb5 hi6'
        go_wp2
        refine bodyPost_ret (v := .tuple #[.agg #[.int .i64 0, .int .i64 0, .bool false, .bool false, .int .i64 0, .int .i64 0, .int .i64 0, .int .u32 0, .int .u32 0, .slice none 0 0, .slice none 0 0], .int .i64 7]) ?_ rfl ⟨none, 0, none, 0, by rw [HP7.out]; rfl, ?_⟩
        · simp [results, Try.results46, go_sem, z0, z1, z2, z3, z4, z5, z6, z7, z8, z9, z10]
        · rw [HP7.out]
          exact gives_empty (below_set11 y5 _ _ _ _ _ _ _ _ _ _ _)
  · have HP2 : Hid (prs l = (5, Pk.empty)) := Go.Lib.hid (by rw [HP.out, if_pos hS])
    have t2 : (fo (tot (l.take k)) != 65535) = true := by simpa using hS
    obtain ⟨⟨z0, z1, z2, z3, z4, z5, z6, z7, z8, z9, z10⟩, zf⟩ := zx_of x2
    clear hS HP x2
    generalize fo (tot (l.take k)) = s at *
    go_wp2
    refine bodyPost_ret (v := .tuple #[.agg #[.int .i64 0, .int .i64 0, .bool false, .bool false, .int .i64 0, .int .i64 0, .int .i64 0, .int .u32 0, .int .u32 0, .slice none 0 0, .slice none 0 0], .int .i64 5]) ?_ rfl ⟨none, 0, none, 0, by rw [HP2.out]; rfl, ?_⟩
    · simp [results, Try.results46, go_sem, z0, z1, z2, z3, z4, z5, z6, z7, z8, z9, z10]
    · rw [HP2.out]
      exact gives_empty (below_set11 y2 _ _ _ _ _ _ _ _ _ _ _)
end Go.Proofs.Ytndhiopfkgdhcaa
