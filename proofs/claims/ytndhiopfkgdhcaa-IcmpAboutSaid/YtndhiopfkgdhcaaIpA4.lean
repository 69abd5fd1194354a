/- Contracts of package ip's reading functions: a copy, the lengths. -/
import Derived.Test.YtndhiopfkgdhcaaClone
import Derived.Test.YtndhiopfkgdhcaaIpA3
import Derived.Lib.SliceRun
namespace Go.Proofs.Ytndhiopfkgdhcaa
open Go.ChangeShapes Go.WideShapes Go.ChangeAt Go.RowKit
set_option linter.unusedVariables false

theorem u8_mask4 (x : Int) (h0 : 0 ≤ x) (h1 : x ≤ 255) : bits .and .u8 x 15 = x % 16 := by
  rw [u8_and x 15 h0 (by omega) (by omega) (by omega)]
  show ((x.toNat &&& 15 : Nat) : Int) = _
  rw [nat_mask4]; omega

/-- how long a head says that it is, and the whole; or the first error. -/
def measE (l : List UInt8) : Int :=
  if l.length < 20 then 2
  else if g8 l 0 / 16 ≠ 4 ∨ headN l < 20 ∨ (l.length : Int) < headN l then 3
  else if wd l 2 < headN l ∨ (l.length : Int) < wd l 2 then 4
  else 0

set_option maxRecDepth 100000 in
set_option maxHeartbeats 1000000 in
theorem cmeasure (A : Option Addr) (n c : Nat) (l : List UInt8) (B : Nat) (w : World) (hn : l.length = n) (h : Bs w B A l) (hn2 : n ≤ 16777216) (hnc : n ≤ c) :
    Calls Try.prog 51 #[.slice A n c] w fun e w' => e = .returned (.tuple #[.int .i64 (if measE l = 0 then headN l else 0), .int .i64 (if measE l = 0 then wd l 2 else 0), .int .i64 (measE l)]) ∧ ∃ m, w' = w.drewN m := by
  by_cases h20 : n < 20
  · have e : measE l = 2 := by unfold measE; rw [if_pos (by omega)]
    rw [e]
    clear e hn h
    go_enter Try.func51, Try.ntmps51
    go_wp2
    go_ret3
    exact ⟨rfl, 0, rfl⟩
  obtain ⟨ad, rfl, hlt, hcell⟩ := g8_cells h (by omega)
  have hc0 : w.cell? ad = some (.int .u8 (g8 l 0)) := by have := hcell 0 (by omega); rwa [add_zero] at this
  clear hcell
  have b0 := g8_lo l 0
  have b1 := g8_hi l 0
  have a0 := wd_lo l 2
  have a1 := wd_hi l 2
  have hm := u8_mask4 (g8 l 0) b0 b1
  have i0 : 0 < n := by omega
  by_cases h3 : g8 l 0 / 16 ≠ 4 ∨ headN l < 20 ∨ (n : Int) < headN l
  · have e : measE l = 3 := by unfold measE; rw [if_neg (by omega), if_pos (by rw [hn]; exact h3)]
    rw [e]
    clear e hn h
    unfold headN at h3
    generalize g8 l 0 = x at *
    by_cases h4 : x / 16 = 4
    · have t1 : (x / 16 != 4) = false := by simpa using h4
      by_cases h5 : x % 16 * 4 < 20
      · clear h3 h4
        go_enter Try.func51, Try.ntmps51
        go_wp2
        go_ret3
        exact ⟨rfl, 0, rfl⟩
      · have h6 : (n : Int) < x % 16 * 4 := by omega
        clear h3 h4
        go_enter Try.func51, Try.ntmps51
        go_wp2
        go_ret3
        exact ⟨rfl, 0, rfl⟩
    · have t1 : (x / 16 != 4) = true := by simpa using h4
      clear h3 h4
      go_enter Try.func51, Try.ntmps51
      go_wp2
      go_ret3
      exact ⟨rfl, 0, rfl⟩
  have hh : ¬ (headN l < 20) ∧ ¬ ((n : Int) < headN l) ∧ g8 l 0 / 16 = 4 := by omega
  obtain ⟨g1, g2, g3⟩ := hh
  have t1 : (g8 l 0 / 16 != 4) = false := by simpa using g3
  have HN := Go.Lib.hid hn
  have HB := Go.Lib.hid h
  have HH : Hid (headN l = g8 l 0 % 16 * 4) := Go.Lib.hid rfl
  by_cases h4 : wd l 2 < headN l ∨ (n : Int) < wd l 2
  · have e : measE l = 4 := by unfold measE; rw [if_neg (by omega), if_neg (by rw [hn]; exact h3), if_pos (by rw [hn]; exact h4)]
    rw [e]
    rw [HH.out] at g1 g2 h4
    clear e h3 hn h
    by_cases h5 : wd l 2 < g8 l 0 % 16 * 4
    · clear h4
      go_enter Try.func51, Try.ntmps51
      go_wp2_with (go_at_call 53; refine (cword (some ad) n c l B _ HN.out HB.out 2 _ rfl (by omega) hn2).mono ?_; rintro e w' ⟨rfl, m, rfl⟩)
      go_ret3
      exact ⟨rfl, _, rfl⟩
    · have h6 : (n : Int) < wd l 2 := by omega
      clear h4
      go_enter Try.func51, Try.ntmps51
      go_wp2_with (go_at_call 53; refine (cword (some ad) n c l B _ HN.out HB.out 2 _ rfl (by omega) hn2).mono ?_; rintro e w' ⟨rfl, m, rfl⟩)
      go_ret3
      exact ⟨rfl, _, rfl⟩
  · have e : measE l = 0 := by unfold measE; rw [if_neg (by omega), if_neg (by rw [hn]; exact h3), if_neg (by rw [hn]; exact h4)]
    rw [e]
    have h5 : ¬ wd l 2 < headN l := by omega
    have h6 : ¬ (n : Int) < wd l 2 := by omega
    rw [HH.out] at g1 g2 h5
    clear e h3 hn h h4
    go_enter Try.func51, Try.ntmps51
    go_wp2_with (go_at_call 53; refine (cword (some ad) n c l B _ HN.out HB.out 2 _ rfl (by omega) hn2).mono ?_; rintro e w' ⟨rfl, m, rfl⟩)
    go_ret3
    exact ⟨rfl, _, rfl⟩
end Go.Proofs.Ytndhiopfkgdhcaa
