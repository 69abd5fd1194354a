/- Contracts of package tcp: words and numbers of bytes. -/
import Derived.Test.YtghgemmbbedopaaRows
import Derived.WalkKit
import Derived.ProofKit
import Derived.OpenShut
import Derived.Below
import Derived.Deep.QuietTactic
import Derived.Deep.RegionHeld3
import Derived.BigQuiet
import Derived.OwnWalk
import Derived.Test.YtghgemmbbedopaaIpPlain
import Derived.Test.YtghgemmbbedopaaMem
import Derived.Test.YtghgemmbbedopaaOwn
import Derived.Test.YtghgemmbbedopaaTcpPlain
namespace Go.Proofs.Ytghgemmbbedopaa
open Go.ChangeShapes Go.WideShapes Go.ChangeAt Go.RowKit
set_option linter.unusedVariables false

set_option maxHeartbeats 400000 in
theorem tword (A : Option Addr) (n c : Nat) (l : List UInt8) (B : Nat) (w : World) (hn : l.length = n) (h : Bs w B A l) (k : Nat) (ki : Int) (hki : ki = (k : Int)) (hk : k + 1 < n) (hn2 : n ≤ 16777216) :
    Calls Try.prog 49 #[.slice A n c, .int .i64 ki] w fun e w' => e = .returned (.int .u16 (wd l k)) ∧ ∃ m, w' = w.drewN m := by
  subst hki
  obtain ⟨ad, rfl, hlt, hcell⟩ := g8_cells h (by omega)
  have c0 := hcell k (by omega)
  have c1 := hcell (k + 1) (by omega)
  rw [add_pos ad (k + 1) (by omega)] at c1
  have H := Go.Lib.hid hn
  clear hcell hn h
  have b0 := g8_lo l k
  have b1 := g8_hi l k
  have b2 := g8_lo l (k + 1)
  have b3 := g8_hi l (k + 1)
  have hw := u16_or8 (g8 l k) (g8 l (k + 1)) b0 b1 b2 b3
  have HE : Hid (wd l k = g8 l k * 256 + g8 l (k + 1)) := Go.Lib.hid rfl
  generalize g8 l k = x at *
  generalize g8 l (k + 1) = y at *
  have e1 := IntWalk.u16_in x (by omega)
  have e2 := IntWalk.u16_in y (by omega)
  have e3 := IntWalk.u16_in (x * 256) (by omega)
  have i0 : (k : Int) < (n : Int) := by omega
  have i1 : (k : Int) + 1 < (n : Int) := by omega
  have j0 : (0 : Int) ≤ (k : Int) := by omega
  have j1 : (0 : Int) ≤ (k : Int) + 1 := by omega
  have s1 : IntKind.i64.wrap ((k : Int) + 1) = (k : Int) + 1 := IntWalk.i64_in _ (by omega)
  have s2 : ((k : Int) + 1).toNat = k + 1 := by omega
  go_enter Try.func49, Try.ntmps49
  go_wp2
  go_quiet (fail)
  go_wp2
  go_ret
  exact ⟨ret_int HE.out.symm, _, rfl⟩

theorem u32_or16t (a b : Int) (a0 : 0 ≤ a) (a1 : a ≤ 65535) (b0 : 0 ≤ b) (b1 : b ≤ 65535) : bits .or .u32 (a * 65536) b = a * 65536 + b := by
  rw [u32_or _ _ (by omega) (by omega) b0 (by omega), nat_join 16 _ _ (by omega) (by omega)]
  omega

set_option maxHeartbeats 400000 in
theorem tlong (A : Option Addr) (n c : Nat) (l : List UInt8) (B : Nat) (w : World) (hn : l.length = n) (h : Bs w B A l) (k : Nat) (ki : Int) (hki : ki = (k : Int)) (hk : k + 3 < n) (hn2 : n ≤ 16777216) :
    Calls Try.prog 50 #[.slice A n c, .int .i64 ki] w fun e w' => e = .returned (.int .u32 (ad4 l k)) ∧ ∃ m, w' = w.drewN m := by
  subst hki
  have HN := Go.Lib.hid hn
  have HB := Go.Lib.hid h
  clear hn h
  have b0 := wd_lo l k
  have b1 := wd_hi l k
  have b2 := wd_lo l (k + 2)
  have b3 := wd_hi l (k + 2)
  have hw := u32_or16t (wd l k) (wd l (k + 2)) b0 b1 b2 b3
  have e1 := IntWalk.u32_in (wd l k) (by omega)
  have e2 := IntWalk.u32_in (wd l (k + 2)) (by omega)
  have e3 := IntWalk.u32_in (wd l k * 65536) (by omega)
  have s1 : IntKind.i64.wrap ((k : Int) + 2) = (k : Int) + 2 := IntWalk.i64_in _ (by omega)
  go_enter Try.func50, Try.ntmps50
  go_wp2_with fail
  refine (tword A n c l B _ HN.out HB.out k _ rfl (by omega) hn2).mono ?_
  rintro e w' ⟨rfl, m, rfl⟩
  go_wp2_with fail
  refine (tword A n c l B _ HN.out (HB.out.drewN _) (k + 2) _ (by omega) (by omega) hn2).mono ?_
  rintro e w' ⟨rfl, m2, rfl⟩
  go_wp2
  go_ret
  exact ⟨rfl, _, rfl⟩

set_option maxHeartbeats 400000 in
theorem tupTo (n m : Int) (w : World) :
    Calls Try.prog 38 #[.int .i64 n, .int .i64 m] w fun e w' => e = .returned (.bool (upB n m)) ∧ w = w' := by
  unfold upB
  by_cases h0 : 0 ≤ n
  · by_cases h1 : n ≤ m
    · go_enter Try.func38, Try.ntmps38
      go_wp2
      go_ret
      exact ⟨by simp [h0, h1], rfl⟩
    · go_enter Try.func38, Try.ntmps38
      go_wp2
      go_ret
      exact ⟨by simp [h1], rfl⟩
  · go_enter Try.func38, Try.ntmps38
    go_wp2
    go_ret
    exact ⟨by simp; omega, rfl⟩

set_option maxHeartbeats 400000 in
theorem tputWord (w : World) (base g n c : Nat) (l : List UInt8) (h : Own w base g n c l) (k : Nat) (ki : Int) (hki : ki = (k : Int)) (hk : k + 1 < n) (hn : n ≤ 16777216) (x : Int) (x0 : 0 ≤ x) (x1 : x ≤ 65535) :
    Calls Try.prog 24 #[.slice (some ⟨g, 0, none⟩) n c, .int .i64 ki, .int .u16 x] w fun e w' => e = .returned (.tuple #[]) ∧ Own w' base g n c ((l.set k (b8 (x / 256))).set (k + 1) (b8 (x % 256))) ∧ Below base w w' := by
  subst hki
  have c0 := h.cellAt k (by omega)
  have c1 := h.cellAt (k + 1) (by omega)
  have r0 := h.frozenAt k
  have r1 := h.frozenAt (k + 1)
  obtain ⟨s1, s2⟩ := h.stored k (x / 256) (by omega) (by omega)
  obtain ⟨s3, s4⟩ := s1.stored (k + 1) (x % 256) (by omega) (by omega)
  have S := Go.Lib.hid (And.intro s3 (s2.trans s4))
  clear s1 s2 s3 s4 h
  have e1 := IntKind.wrap_u8 x
  have e2 := IntWalk.u8_in (x / 256) (by omega)
  go_enter Try.func24, Try.ntmps24
  go_wp2
  go_end0
  exact ⟨rfl, S.out⟩

set_option maxHeartbeats 400000 in
theorem tputLong (w : World) (base g n c : Nat) (l : List UInt8) (h : Own w base g n c l) (k : Nat) (ki : Int) (hki : ki = (k : Int)) (hk : k + 3 < n) (hn : n ≤ 16777216) (x : Int) (x0 : 0 ≤ x) (x1 : x ≤ 4294967295) :
    Calls Try.prog 42 #[.slice (some ⟨g, 0, none⟩) n c, .int .i64 ki, .int .u32 x] w fun e w' => e = .returned (.tuple #[]) ∧
      Own w' base g n c ((((l.set k (b8 (x / 65536 / 256))).set (k + 1) (b8 (x / 65536 % 256))).set (k + 2) (b8 (x % 65536 / 256))).set (k + 2 + 1) (b8 (x % 65536 % 256))) ∧ Below base w w' := by
  subst hki
  have H := Go.Lib.hid h
  clear h
  have e1 := IntKind.wrap_u16 x
  have e2 := IntWalk.u16_in (x / 65536) (by omega)
  have s1 : IntKind.i64.wrap ((k : Int) + 2) = (k : Int) + 2 := IntWalk.i64_in _ (by omega)
  go_enter Try.func42, Try.ntmps42
  go_wp2_with fail
  refine (tputWord w base g n c l H.out k _ rfl (by omega) hn (x / 65536) (by omega) (by omega)).mono ?_
  rintro e w1 ⟨rfl, h1, b1⟩
  go_wp2_with fail
  refine (tputWord w1 base g n c _ h1 (k + 2) _ (by omega) (by omega) hn (x % 65536) (by omega) (by omega)).mono ?_
  rintro e w2 ⟨rfl, h2, b2⟩
  go_wp2
  go_end0
  exact ⟨rfl, h2, b1.trans b2⟩
end Go.Proofs.Ytghgemmbbedopaa
