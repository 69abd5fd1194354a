/- Contracts of package icmp: words of bytes, what a message is. -/
import Derived.Test.YtndhiopfkgdhcaaRows
import Derived.WalkKit
import Derived.ProofKit
import Derived.OpenShut
import Derived.Below
import Derived.Deep.QuietTactic
import Derived.Deep.RegionHeld3
import Derived.BigQuiet
import Derived.OwnWalk
import Derived.Test.YtndhiopfkgdhcaaIpPlain
import Derived.Test.YtndhiopfkgdhcaaMem
import Derived.Test.YtndhiopfkgdhcaaOwn
import Derived.Test.YtndhiopfkgdhcaaIcmpR2
namespace Go.Proofs.Ytndhiopfkgdhcaa
open Go.ChangeShapes Go.WideShapes Go.ChangeAt Go.RowKit
set_option linter.unusedVariables false

set_option maxHeartbeats 400000 in
theorem iword (A : Option Addr) (n c : Nat) (l : List UInt8) (B : Nat) (w : World) (hn : l.length = n) (h : Bs w B A l) (k : Nat) (ki : Int) (hki : ki = (k : Int)) (hk : k + 1 < n) (hn2 : n ≤ 16777216) :
    Calls Try.prog 38 #[.slice A n c, .int .i64 ki] w fun e w' => e = .returned (.int .u16 (wd l k)) ∧ ∃ m, w' = w.drewN m := by
  subst hki
  obtain ⟨ad, rfl, hlt, hcell⟩ := g8_cells h (by omega)
  have c0 := hcell k (by omega)
  have c1 := hcell (k + 1) (by omega)
  rw [add_pos ad (k + 1) (by omega)] at c1
  have H := Go.Lib.hid hn
  clear hcell hn h
  have b0 := g8_lo l k
  have b1 := g8_hi l k
  have b2 := g8_lo l (k + 1)
  have b3 := g8_hi l (k + 1)
  have hw := u16_or8 (g8 l k) (g8 l (k + 1)) b0 b1 b2 b3
  have HE : Hid (wd l k = g8 l k * 256 + g8 l (k + 1)) := Go.Lib.hid rfl
  generalize g8 l k = x at *
  generalize g8 l (k + 1) = y at *
  have e1 := IntWalk.u16_in x (by omega)
  have e2 := IntWalk.u16_in y (by omega)
  have e3 := IntWalk.u16_in (x * 256) (by omega)
  have i0 : (k : Int) < (n : Int) := by omega
  have i1 : (k : Int) + 1 < (n : Int) := by omega
  have j0 : (0 : Int) ≤ (k : Int) := by omega
  have j1 : (0 : Int) ≤ (k : Int) + 1 := by omega
  have s1 : IntKind.i64.wrap ((k : Int) + 1) = (k : Int) + 1 := IntWalk.i64_in _ (by omega)
  have s2 : ((k : Int) + 1).toNat = k + 1 := by omega
  go_enter Try.func38, Try.ntmps38
  go_wp2
  go_quiet (fail)
  go_wp2
  go_ret
  exact ⟨ret_int HE.out.symm, _, rfl⟩

set_option maxHeartbeats 400000 in
theorem iupTo (n m : Int) (w : World) :
    Calls Try.prog 30 #[.int .i64 n, .int .i64 m] w fun e w' => e = .returned (.bool (upB n m)) ∧ w = w' := by
  unfold upB
  by_cases h0 : 0 ≤ n
  · by_cases h1 : n ≤ m
    · go_enter Try.func30, Try.ntmps30
      go_wp2
      go_ret
      exact ⟨by simp [h0, h1], rfl⟩
    · go_enter Try.func30, Try.ntmps30
      go_wp2
      go_ret
      exact ⟨by simp [h1], rfl⟩
  · go_enter Try.func30, Try.ntmps30
    go_wp2
    go_ret
    exact ⟨by simp; omega, rfl⟩

set_option maxHeartbeats 400000 in
theorem iputWord (w : World) (base g n c : Nat) (l : List UInt8) (h : Own w base g n c l) (k : Nat) (ki : Int) (hki : ki = (k : Int)) (hk : k + 1 < n) (hn : n ≤ 16777216) (x : Int) (x0 : 0 ≤ x) (x1 : x ≤ 65535) :
    Calls Try.prog 32 #[.slice (some ⟨g, 0, none⟩) n c, .int .i64 ki, .int .u16 x] w fun e w' => e = .returned (.tuple #[]) ∧ Own w' base g n c ((l.set k (b8 (x / 256))).set (k + 1) (b8 (x % 256))) ∧ Below base w w' := by
  subst hki
  have c0 := h.cellAt k (by omega)
  have c1 := h.cellAt (k + 1) (by omega)
  have r0 := h.frozenAt k
  have r1 := h.frozenAt (k + 1)
  obtain ⟨s1, s2⟩ := h.stored k (x / 256) (by omega) (by omega)
  obtain ⟨s3, s4⟩ := s1.stored (k + 1) (x % 256) (by omega) (by omega)
  have S := Go.Lib.hid (And.intro s3 (s2.trans s4))
  clear s1 s2 s3 s4 h
  have e1 := IntKind.wrap_u8 x
  have e2 := IntWalk.u8_in (x / 256) (by omega)
  go_enter Try.func32, Try.ntmps32
  go_wp2
  go_end0
  exact ⟨rfl, S.out⟩

theorem iup_b (n m : Int) (b : Bool) (hb : upB n m = b) (w : World) :
    Calls Try.prog 30 #[.int .i64 n, .int .i64 m] w fun e w' => e = .returned (.bool b) ∧ w = w' := hb ▸ iupTo n m w
set_option maxHeartbeats 1000000 in
theorem iisErr (k : Int) (w : World) (b : Bool) (hb : errK k = b) :
    Calls Try.prog 36 #[.int .i64 k] w fun e w' => e = .returned (.bool b) ∧ w = w' := by
  unfold errK at hb
  by_cases h3 : k = 3
  · subst h3
    subst hb
    go_enter Try.func36, Try.ntmps36
    go_wp2
    go_ret
    exact ⟨rfl, rfl⟩
  by_cases h4 : k = 4
  · subst h4
    subst hb
    go_enter Try.func36, Try.ntmps36
    go_wp2
    go_ret
    exact ⟨rfl, rfl⟩
  by_cases h11 : k = 11
  · subst h11
    subst hb
    go_enter Try.func36, Try.ntmps36
    go_wp2
    go_ret
    exact ⟨rfl, rfl⟩
  by_cases h12 : k = 12
  · subst h12
    subst hb
    go_enter Try.func36, Try.ntmps36
    go_wp2
    go_ret
    exact ⟨rfl, rfl⟩
  have t3 : (k == 3) = false := by simpa using h3
  have t4 : (k == 4) = false := by simpa using h4
  have t11 : (k == 11) = false := by simpa using h11
  have t12 : (k == 12) = false := by simpa using h12
  rw [t3, t4, t11, t12] at hb
  subst hb
  clear h3 h4 h11 h12
  go_enter Try.func36, Try.ntmps36
  go_wp2
  go_ret
  exact ⟨rfl, rfl⟩
def askK (k : Int) : Bool := k == 8 || k == 13
def ansK (k : Int) : Bool := k == 0 || k == 14
def nameI (m : Ic) : Int := if askK m.type || ansK m.type then m.rest / 65536 else 0
set_option maxRecDepth 100000 in
set_option maxHeartbeats 1000000 in
theorem ierror (m : Ic) (Ab : Option Addr) (cb : Nat) (w : World) (b : Bool) (hb : errK m.type = b) :
    Calls Try.prog 16 #[icV m Ab cb] w fun e w' => e = .returned (.bool b) ∧ Below w.heap.size w w' := by
  have HB := Go.Lib.hid hb
  clear hb
  go_enter Try.func16, Try.ntmps16
  go_wp2_with fail
  refine (iisErr m.type _ b HB.out).mono ?_
  rintro e w' ⟨rfl, rfl⟩
  dsimp only
  go_wp2
  go_ret
  exact ⟨rfl, (Below.refl _ _).alloc (Nat.le_refl _) _⟩
set_option maxRecDepth 100000 in
set_option maxHeartbeats 1000000 in
theorem iasks (m : Ic) (Ab : Option Addr) (cb : Nat) (w : World) (b : Bool) (hb : askK m.type = b) :
    Calls Try.prog 14 #[icV m Ab cb] w fun e w' => e = .returned (.bool b) ∧ Below w.heap.size w w' := by
  unfold askK at hb
  subst hb
  go_enter Try.func14, Try.ntmps14
  go_wp2
  all_goals (go_ret; refine ⟨ret_bool ?_, (Below.refl _ _).alloc (Nat.le_refl _) _⟩)
  all_goals first | rfl | (simp [*]; done)
set_option maxRecDepth 100000 in
set_option maxHeartbeats 1000000 in
theorem ianswers (m : Ic) (Ab : Option Addr) (cb : Nat) (w : World) (b : Bool) (hb : ansK m.type = b) :
    Calls Try.prog 15 #[icV m Ab cb] w fun e w' => e = .returned (.bool b) ∧ Below w.heap.size w w' := by
  unfold ansK at hb
  subst hb
  go_enter Try.func15, Try.ntmps15
  go_wp2
  all_goals (go_ret; refine ⟨ret_bool ?_, (Below.refl _ _).alloc (Nat.le_refl _) _⟩)
  all_goals first | rfl | (simp [*]; done)
set_option maxRecDepth 100000 in
set_option maxHeartbeats 1000000 in
theorem iname (m : Ic) (Ab : Option Addr) (cb : Nat) (w : World) (n : Int) (hn : nameI m = n) (r0 : 0 ≤ m.rest) (r1 : m.rest ≤ 4294967295) :
    Calls Try.prog 18 #[icV m Ab cb] w fun e w' => e = .returned (.int .i64 n) ∧ Below w.heap.size w w' := by
  have m0 := icIs.made (w := w) (m := m) (A_body := Ab) (c_body := cb)
  have b0 : Below w.heap.size w (w.alloc (icO m Ab cb)) := (Below.refl _ _).alloc (Nat.le_refl _) _
  have s0 : w.heap.size < (w.alloc (icO m Ab cb)).heap.size := by simp
  obtain ⟨x, hx⟩ : ∃ x : Bool, askK m.type = x := ⟨_, rfl⟩
  obtain ⟨y, hy⟩ : ∃ y : Bool, ansK m.type = y := ⟨_, rfl⟩
  unfold nameI at hn
  rw [hx, hy] at hn
  have HX := Go.Lib.hid hx
  have HY := Go.Lib.hid hy
  have HN := Go.Lib.hid hn
  have e1 := IntWalk.i64_in (m.rest / 65536) (by omega)
  clear hx hy hn
  go_enter Try.func18, Try.ntmps18
  go_upto_region 1 with fail
  generalize w.alloc (.cells #[.int .i64 m.type, .int .i64 m.code, .int .u32 m.rest, .slice Ab m.body.length cb] 25) = W at *
  obtain ⟨c0, c1, c2, c3⟩ := m0.cells
  cases x
  · go_wp2_with fail
    refine (iasks m Ab cb _ false HX.out).mono ?_
    rintro e w1 ⟨rfl, hb1⟩
    dsimp only
    have b1 := b0.trans (hb1.mono b0.size)
    have m1 := m0.call hb1 s0
    clear c0 c1 c2 c3
    obtain ⟨c0, c1, c2, c3⟩ := m1.cells
    have s1 := Nat.lt_of_lt_of_le s0 hb1.size
    clear hb1
    cases y
    · go_wp2_with fail
      refine (ianswers m Ab cb _ false HY.out).mono ?_
      rintro e w2 ⟨rfl, hb2⟩
      dsimp only
      have b2 := b1.trans (hb2.mono b1.size)
      go_wp2
      go_ret
      exact ⟨ret_int HN.out, b2⟩
    · go_wp2_with fail
      refine (ianswers m Ab cb _ true HY.out).mono ?_
      rintro e w2 ⟨rfl, hb2⟩
      dsimp only
      have b2 := b1.trans (hb2.mono b1.size)
      have m2 := m1.call hb2 s1
      clear c0 c1 c2 c3
      obtain ⟨c0, c1, c2, c3⟩ := m2.cells
      go_wp2
      go_ret
      exact ⟨ret_int HN.out, b2⟩
  · go_wp2_with fail
    refine (iasks m Ab cb _ true HX.out).mono ?_
    rintro e w1 ⟨rfl, hb1⟩
    dsimp only
    have b1 := b0.trans (hb1.mono b0.size)
    have m1 := m0.call hb1 s0
    clear c0 c1 c2 c3
    obtain ⟨c0, c1, c2, c3⟩ := m1.cells
    go_wp2
    go_ret
    exact ⟨ret_int HN.out, b1⟩
end Go.Proofs.Ytndhiopfkgdhcaa
