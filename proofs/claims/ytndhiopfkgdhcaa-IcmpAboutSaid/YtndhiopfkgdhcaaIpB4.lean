/- The contract of the document's own Parse for package ip. -/
import Derived.Test.YtndhiopfkgdhcaaIpA6
import Derived.Test.YtndhiopfkgdhcaaIpB0
import Derived.Test.YtndhiopfkgdhcaaWords
namespace Go.Proofs.Ytndhiopfkgdhcaa
open Go.ChangeShapes Go.WideShapes Go.ChangeAt Go.RowKit
set_option linter.unusedVariables false

theorem zw_is (w : World) : w.alloc (.cells #[.int .i64 0, .int .i64 0, .bool false, .bool false, .int .i64 0, .int .i64 0, .int .i64 0, .int .u32 0, .int .u32 0, .slice none 0 0, .slice none 0 0] 43) = Zw w := rfl
/-- an empty packet lies in the newest block of w, and what was below is as it was. -/
def Zb (w X : World) : Prop := Below (w.heap.size + 1) (Zw w) X

set_option maxRecDepth 100000 in
set_option maxHeartbeats 1000000 in
theorem rparseA (A : Option Addr) (n c : Nat) (l : List UInt8) (w : World) (hn : l.length = n) (h : Bs w w.heap.size A l) (hn2 : n ≤ 16777216) (hnc : n ≤ c) (hM : measE l ≠ 0) :
    Calls Try.prog 46 #[.slice A n c] w (Parsed w l) := by
  have x0 : Zb w (Zw w) := Below.refl _ _
  obtain ⟨⟨z0, z1, z2, z3, z4, z5, z6, z7, z8, z9, z10⟩, zf⟩ := zx_of (show Below _ _ _ from x0)
  have y0 : Below w.heap.size w (Zw w) := Zw.below x0
  have HP := prs_meas l hM
  by_cases h20 : n < 20
  · have e : measE l = 2 := by unfold measE; rw [if_pos (by omega)]
    rw [e] at HP
    have HP := Go.Lib.hid HP
    clear e hM h
    go_enter Try.func46, Try.ntmps46
    go_upto_region 1 with fail
    rw [zw_is]
    generalize Zw w = X at *
    go_wp2
    refine bodyPost_ret (v := .tuple #[.agg #[.int .i64 0, .int .i64 0, .bool false, .bool false, .int .i64 0, .int .i64 0, .int .i64 0, .int .u32 0, .int .u32 0, .slice none 0 0, .slice none 0 0], .int .i64 2]) ?_ rfl ⟨none, 0, none, 0, by rw [HP.out]; rfl, ?_⟩
    · simp [results, Try.results46, go_sem, z0, z1, z2, z3, z4, z5, z6, z7, z8, z9, z10]
    · rw [HP.out]
      exact gives_empty (below_set11 y0 _ _ _ _ _ _ _ _ _ _ _)
  obtain ⟨ad, rfl, hlt, hcell⟩ := g8_cells h (by omega)
  have hc0 : (Zw w).cell? ad = some (.int .u8 (g8 l 0)) := by
    have := hcell 0 (by omega)
    rw [add_zero] at this
    exact (World.cell?_alloc_lt w _ ad (by omega)).trans this
  clear hcell
  have b0 := g8_lo l 0
  have b1 := g8_hi l 0
  have i0 : 0 < n := by omega
  by_cases h3 : g8 l 0 / 16 ≠ 4 ∨ headN l < 20 ∨ (n : Int) < headN l
  · have e : measE l = 3 := by unfold measE; rw [if_neg (by omega), if_pos (by rw [hn]; exact h3)]
    rw [e] at HP
    have HP := Go.Lib.hid HP
    clear e hM h hn
    unfold headN at h3
    generalize g8 l 0 = x at *
    by_cases h4 : x / 16 = 4
    · have t1 : (x / 16 != 4) = false := by simpa using h4
      by_cases h5 : x % 16 * 4 < 20
      · clear h3 h4
        go_enter Try.func46, Try.ntmps46
        go_upto_region 1 with fail
        rw [zw_is]
        generalize Zw w = X at *
        go_wp2
        refine bodyPost_ret (v := .tuple #[.agg #[.int .i64 0, .int .i64 0, .bool false, .bool false, .int .i64 0, .int .i64 0, .int .i64 0, .int .u32 0, .int .u32 0, .slice none 0 0, .slice none 0 0], .int .i64 3]) ?_ rfl ⟨none, 0, none, 0, by rw [HP.out]; rfl, ?_⟩
        · simp [results, Try.results46, go_sem, z0, z1, z2, z3, z4, z5, z6, z7, z8, z9, z10]
        · rw [HP.out]
          exact gives_empty (below_set11 y0 _ _ _ _ _ _ _ _ _ _ _)
      · have h6 : (n : Int) < x % 16 * 4 := by omega
        clear h3 h4
        go_enter Try.func46, Try.ntmps46
        go_upto_region 1 with fail
        rw [zw_is]
        generalize Zw w = X at *
        go_wp2
        refine bodyPost_ret (v := .tuple #[.agg #[.int .i64 0, .int .i64 0, .bool false, .bool false, .int .i64 0, .int .i64 0, .int .i64 0, .int .u32 0, .int .u32 0, .slice none 0 0, .slice none 0 0], .int .i64 3]) ?_ rfl ⟨none, 0, none, 0, by rw [HP.out]; rfl, ?_⟩
        · simp [results, Try.results46, go_sem, z0, z1, z2, z3, z4, z5, z6, z7, z8, z9, z10]
        · rw [HP.out]
          exact gives_empty (below_set11 y0 _ _ _ _ _ _ _ _ _ _ _)
    · have t1 : (x / 16 != 4) = true := by simpa using h4
      clear h3 h4
      go_enter Try.func46, Try.ntmps46
      go_upto_region 1 with fail
      rw [zw_is]
      generalize Zw w = X at *
      go_wp2
      refine bodyPost_ret (v := .tuple #[.agg #[.int .i64 0, .int .i64 0, .bool false, .bool false, .int .i64 0, .int .i64 0, .int .i64 0, .int .u32 0, .int .u32 0, .slice none 0 0, .slice none 0 0], .int .i64 3]) ?_ rfl ⟨none, 0, none, 0, by rw [HP.out]; rfl, ?_⟩
      · simp [results, Try.results46, go_sem, z0, z1, z2, z3, z4, z5, z6, z7, z8, z9, z10]
      · rw [HP.out]
        exact gives_empty (below_set11 y0 _ _ _ _ _ _ _ _ _ _ _)
  have hh : ¬ (headN l < 20) ∧ ¬ ((n : Int) < headN l) ∧ g8 l 0 / 16 = 4 := by omega
  obtain ⟨g1, g2, g3⟩ := hh
  have t1 : (g8 l 0 / 16 != 4) = false := by simpa using g3
  have HN := Go.Lib.hid hn
  have HB := Go.Lib.hid h
  have HH : Hid (headN l = g8 l 0 % 16 * 4) := Go.Lib.hid rfl
  have HL : Hid ((l.take 20).length = 20) := Go.Lib.hid (by rw [List.length_take]; omega)
  by_cases h4 : wd l 2 < headN l ∨ (n : Int) < wd l 2
  · have e : measE l = 4 := by unfold measE; rw [if_neg (by omega), if_neg (by rw [hn]; exact h3), if_pos (by rw [hn]; exact h4)]
    rw [e] at HP
    have HP := Go.Lib.hid HP
    rw [HH.out] at g1 g2 h4
    have a0 := wd_lo l 2
    have a1 := wd_hi l 2
    have i20 : (20 : Int) ≤ (c : Int) := by omega
    have i10 : (1 : Int) < (10 : Int) := by omega
    clear e h3 hn h hM z0 z1 z2 z3 z4 z5 z6 z7 z8 z9 z10 zf g3
    go_enter Try.func46, Try.ntmps46
    go_upto_region 1 with fail
    rw [zw_is]
    generalize Zw w = X at *
    go_wp2_with fail
    refine (rwords_n (some ad) 20 c (l.take 20) w.heap.size _ HL.out ((HB.out.below y0).take 20) y0.size (by omega) (by omega)).mono ?_
    rintro e w1 ⟨v, rfl, hown, hb1⟩
    dsimp only
    obtain ⟨gw, cw, rfl, _, _, hw⟩ := words20 (by rw [HN.out]; omega) hown
    have hw1 := hw 1 (by omega)
    have x1 : Below (w.heap.size + 1) (Zw w) w1 := Below.trans (show Below _ _ _ from x0) (hb1.mono (Zw.size x0))
    obtain ⟨⟨z0, z1, z2, z3, z4, z5, z6, z7, z8, z9, z10⟩, zf⟩ := zx_of x1
    have y1 := Zw.below x1
    clear hw hown hb1 x0 x1 y0 hc0
    by_cases h5 : wd l 2 < g8 l 0 % 16 * 4
    · clear h4
      go_wp2
      refine bodyPost_ret (v := .tuple #[.agg #[.int .i64 0, .int .i64 0, .bool false, .bool false, .int .i64 0, .int .i64 0, .int .i64 0, .int .u32 0, .int .u32 0, .slice none 0 0, .slice none 0 0], .int .i64 4]) ?_ rfl ⟨none, 0, none, 0, by rw [HP.out]; rfl, ?_⟩
      · simp [results, Try.results46, go_sem, z0, z1, z2, z3, z4, z5, z6, z7, z8, z9, z10]
      · rw [HP.out]
        exact gives_empty (below_set11 y1 _ _ _ _ _ _ _ _ _ _ _)
    · have h6 : (n : Int) < wd l 2 := by omega
      clear h4
      go_wp2
      refine bodyPost_ret (v := .tuple #[.agg #[.int .i64 0, .int .i64 0, .bool false, .bool false, .int .i64 0, .int .i64 0, .int .i64 0, .int .u32 0, .int .u32 0, .slice none 0 0, .slice none 0 0], .int .i64 4]) ?_ rfl ⟨none, 0, none, 0, by rw [HP.out]; rfl, ?_⟩
      · simp [results, Try.results46, go_sem, z0, z1, z2, z3, z4, z5, z6, z7, z8, z9, z10]
      · rw [HP.out]
        exact gives_empty (below_set11 y1 _ _ _ _ _ _ _ _ _ _ _)
  · exfalso
    apply hM
    unfold measE; rw [if_neg (by omega), if_neg (by rw [hn]; exact h3), if_neg (by rw [hn]; exact h4)]

end Go.Proofs.Ytndhiopfkgdhcaa
