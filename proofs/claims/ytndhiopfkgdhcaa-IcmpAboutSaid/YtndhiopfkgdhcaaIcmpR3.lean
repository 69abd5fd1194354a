/- The contract of the document's own About: its errors up to the lengths. -/
import Derived.Test.YtndhiopfkgdhcaaIcmpA7
namespace Go.Proofs.Ytndhiopfkgdhcaa
open Go.ChangeShapes Go.WideShapes Go.ChangeAt Go.RowKit
set_option linter.unusedVariables false
set_option linter.unusedSimpArgs false

set_option maxRecDepth 100000 in
set_option maxHeartbeats 8000000 in
theorem raboutK (m : Ic) (Ab : Option Addr) (cb : Nat) (w : World) (hI : IcIn w w.heap.size m Ab cb) (hz : errK m.type = false) :
    Calls Try.prog 22 #[icV m Ab cb] w (AboutPost w (aboutI m)) := by
  have a0 : Al m Ab cb w (Za m Ab cb w) := Al.start
  have HZK := Go.Lib.hid hz
  have HP := Go.Lib.hid (about_kind hz)
  clear hI hz
  obtain ⟨c0, c1, c2, c3⟩ := a0.is.cells
  obtain ⟨z0, z1, z2, z3, z4, z5, z6, z7, z8, z9, z10⟩ := a0.z
  have zf := a0.fz
  go_enter Try.func22, Try.ntmps22
  go_upto_region 1 with fail
  rw [za_is]
  generalize Za m Ab cb w = W at *
  go_wp2_with fail
  refine (rerrI m.type _ false HZK.out).mono ?_
  rintro e w1 ⟨rfl, rfl⟩
  dsimp only
  go_wp2
  refine bodyPost_ret (v := .tuple #[.agg #[.int .i64 0, .int .i64 0, .bool false, .bool false, .int .i64 0, .int .i64 0, .int .i64 0, .int .u32 0, .int .u32 0, .slice none 0 0, .slice none 0 0], .int .i64 1]) ?_ rfl (about_err HP.out rfl ?_)
  · simp [results, Try.results22, go_sem, z0, z1, z2, z3, z4, z5, z6, z7, z8, z9, z10]
  · exact below_far11 a0.below (Nat.le_succ _) _ _ _ _ _ _ _ _ _ _ _

set_option maxRecDepth 100000 in
set_option maxHeartbeats 8000000 in
theorem raboutM (m : Ic) (Ab : Option Addr) (cb : Nat) (w : World) (hI : IcIn w w.heap.size m Ab cb) (hl : m.body.length ≤ 16777216) (hz : errK m.type = true) (hM : imE m.body ≠ 0) :
    Calls Try.prog 22 #[icV m Ab cb] w (AboutPost w (aboutI m)) := by
  have HI := Go.Lib.hid hI
  have blen := hI.blen
  have bcap := hI.bcap
  have a0 : Al m Ab cb w (Za m Ab cb w) := Al.start
  have HZK := Go.Lib.hid hz
  have HP := about_meas hz hM
  obtain ⟨c0, c1, c2, c3⟩ := a0.is.cells
  obtain ⟨z0, z1, z2, z3, z4, z5, z6, z7, z8, z9, z10⟩ := a0.z
  have zf := a0.fz
  clear hI hz
  by_cases h20 : m.body.length < 20
  · have e : imE m.body = 2 := by unfold imE; rw [if_pos (by omega)]
    rw [e] at HP
    have HP := Go.Lib.hid HP
    have h20' : (m.body.length : Int) < 20 := by omega
    clear e hM h20
    go_enter Try.func22, Try.ntmps22
    go_upto_region 1 with fail
    rw [za_is]
    generalize Za m Ab cb w = W at *
    go_wp2_with fail
    refine (rerrI m.type _ true HZK.out).mono ?_
    rintro e w1 ⟨rfl, rfl⟩
    dsimp only
    go_wp2
    refine bodyPost_ret (v := .tuple #[.agg #[.int .i64 0, .int .i64 0, .bool false, .bool false, .int .i64 0, .int .i64 0, .int .i64 0, .int .u32 0, .int .u32 0, .slice none 0 0, .slice none 0 0], .int .i64 2]) ?_ rfl (about_err HP.out rfl ?_)
    · simp [results, Try.results22, go_sem, z0, z1, z2, z3, z4, z5, z6, z7, z8, z9, z10]
    · exact below_far11 a0.below (Nat.le_succ _) _ _ _ _ _ _ _ _ _ _ _
  obtain ⟨ad, rfl, hlt, hcell⟩ := g8_cells HI.out.bs (by omega)
  have hc0 : (Za m (some ad) cb w).cell? ad = some (.int .u8 (g8 m.body 0)) := by
    have := hcell 0 (by omega)
    rw [add_zero] at this
    exact (a0.below.cell hlt).trans this
  clear hcell
  have b0 := g8_lo m.body 0
  have b1 := g8_hi m.body 0
  have i0 : 0 < m.body.length := by omega
  have h20' : ¬ (m.body.length : Int) < 20 := by omega
  by_cases h3 : g8 m.body 0 / 16 ≠ 4 ∨ headN m.body < 20 ∨ (m.body.length : Int) < headN m.body
  · have e : imE m.body = 3 := by unfold imE; rw [if_neg (by omega), if_pos h3]
    rw [e] at HP
    have HP := Go.Lib.hid HP
    clear e hM h20
    unfold headN at h3
    generalize g8 m.body 0 = x at *
    by_cases h4 : x / 16 = 4
    · have t1 : (x / 16 != 4) = false := by simpa using h4
      by_cases h5 : x % 16 * 4 < 20
      · clear h3 h4
        go_enter Try.func22, Try.ntmps22
        go_upto_region 1 with fail
        rw [za_is]
        generalize Za m (some ad) cb w = W at *
        go_wp2_with fail
        refine (rerrI m.type _ true HZK.out).mono ?_
        rintro e w1 ⟨rfl, rfl⟩
        dsimp only
        go_wp2
        refine bodyPost_ret (v := .tuple #[.agg #[.int .i64 0, .int .i64 0, .bool false, .bool false, .int .i64 0, .int .i64 0, .int .i64 0, .int .u32 0, .int .u32 0, .slice none 0 0, .slice none 0 0], .int .i64 3]) ?_ rfl (about_err HP.out rfl ?_)
        · simp [results, Try.results22, go_sem, z0, z1, z2, z3, z4, z5, z6, z7, z8, z9, z10]
        · exact below_far11 a0.below (Nat.le_succ _) _ _ _ _ _ _ _ _ _ _ _
      · have h6 : (m.body.length : Int) < x % 16 * 4 := by omega
        clear h3 h4
        go_enter Try.func22, Try.ntmps22
        go_upto_region 1 with fail
        rw [za_is]
        generalize Za m (some ad) cb w = W at *
        go_wp2_with fail
        refine (rerrI m.type _ true HZK.out).mono ?_
        rintro e w1 ⟨rfl, rfl⟩
        dsimp only
        go_wp2
        refine bodyPost_ret (v := .tuple #[.agg #[.int .i64 0, .int .i64 0, .bool false, .bool false, .int .i64 0, .int .i64 0, .int .i64 0, .int .u32 0, .int .u32 0, .slice none 0 0, .slice none 0 0], .int .i64 3]) ?_ rfl (about_err HP.out rfl ?_)
        · simp [results, Try.results22, go_sem, z0, z1, z2, z3, z4, z5, z6, z7, z8, z9, z10]
        · exact below_far11 a0.below (Nat.le_succ _) _ _ _ _ _ _ _ _ _ _ _
    · have t1 : (x / 16 != 4) = true := by simpa using h4
      clear h3 h4
      go_enter Try.func22, Try.ntmps22
      go_upto_region 1 with fail
      rw [za_is]
      generalize Za m (some ad) cb w = W at *
      go_wp2_with fail
      refine (rerrI m.type _ true HZK.out).mono ?_
      rintro e w1 ⟨rfl, rfl⟩
      dsimp only
      go_wp2
      refine bodyPost_ret (v := .tuple #[.agg #[.int .i64 0, .int .i64 0, .bool false, .bool false, .int .i64 0, .int .i64 0, .int .i64 0, .int .u32 0, .int .u32 0, .slice none 0 0, .slice none 0 0], .int .i64 3]) ?_ rfl (about_err HP.out rfl ?_)
      · simp [results, Try.results22, go_sem, z0, z1, z2, z3, z4, z5, z6, z7, z8, z9, z10]
      · exact below_far11 a0.below (Nat.le_succ _) _ _ _ _ _ _ _ _ _ _ _
  have hh : ¬ (headN m.body < 20) ∧ ¬ ((m.body.length : Int) < headN m.body) ∧ g8 m.body 0 / 16 = 4 := by omega
  obtain ⟨g1, g2, g3⟩ := hh
  have t1 : (g8 m.body 0 / 16 != 4) = false := by simpa using g3
  have HH : Hid (headN m.body = g8 m.body 0 % 16 * 4) := Go.Lib.hid rfl
  have HL : Hid ((m.body.take 20).length = 20) := Go.Lib.hid (by rw [List.length_take]; omega)
  have hlen20 : Hid (20 ≤ m.body.length) := Go.Lib.hid (by show _ ≤ _; omega)
  by_cases h4 : wd m.body 2 < headN m.body
  · have e : imE m.body = 4 := by unfold imE; rw [if_neg (by omega), if_neg h3, if_pos h4]
    rw [e] at HP
    have HP := Go.Lib.hid HP
    rw [HH.out] at g1 g2 h4
    have x0 := wd_lo m.body 2
    have x1 := wd_hi m.body 2
    have i20 : (20 : Int) ≤ (cb : Int) := by omega
    have i10 : (1 : Int) < (10 : Int) := by omega
    clear e h3 hM h20 g3 z0 z1 z2 z3 z4 z5 z6 z7 z8 z9 z10 zf c0 c1 c2 c3
    obtain ⟨c0, c1, c2, c3⟩ := a0.is.cells
    go_enter Try.func22, Try.ntmps22
    go_upto_region 1 with fail
    rw [za_is]
    generalize Za m (some ad) cb w = W at *
    go_wp2_with fail
    refine (rerrI m.type _ true HZK.out).mono ?_
    rintro e w1 ⟨rfl, rfl⟩
    dsimp only
    go_wp2_with fail
    refine (rwords_n (some ad) 20 cb (m.body.take 20) w.heap.size _ HL.out ((HI.out.bs.below a0.below).take 20) a0.below.size (by omega) (by omega)).mono ?_
    rintro e w2 ⟨v, rfl, hown, hb2⟩
    dsimp only
    obtain ⟨gw, cw, rfl, _, _, hw⟩ := words20 hlen20.out hown
    have hw1 := hw 1 (by omega)
    have a2 := a0.call hb2
    clear hw hown hb2 a0 hc0 c0 c1 c2 c3
    obtain ⟨c0, c1, c2, c3⟩ := a2.is.cells
    obtain ⟨z0, z1, z2, z3, z4, z5, z6, z7, z8, z9, z10⟩ := a2.z
    have zf := a2.fz
    go_wp2
    refine bodyPost_ret (v := .tuple #[.agg #[.int .i64 0, .int .i64 0, .bool false, .bool false, .int .i64 0, .int .i64 0, .int .i64 0, .int .u32 0, .int .u32 0, .slice none 0 0, .slice none 0 0], .int .i64 4]) ?_ rfl (about_err HP.out rfl ?_)
    · simp [results, Try.results22, go_sem, z0, z1, z2, z3, z4, z5, z6, z7, z8, z9, z10]
    · exact below_far11 a2.below (Nat.le_succ _) _ _ _ _ _ _ _ _ _ _ _
  · exfalso
    apply hM
    unfold imE; rw [if_neg (by omega), if_neg h3, if_neg h4]
end Go.Proofs.Ytndhiopfkgdhcaa
