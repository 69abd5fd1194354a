/- Contracts of package udp: words of bytes. -/
import Derived.Test.YthikllbfkagdnaaRows
import Derived.WalkKit
import Derived.ProofKit
import Derived.OpenShut
import Derived.Below
import Derived.Deep.QuietTactic
import Derived.Deep.RegionHeld3
import Derived.BigQuiet
import Derived.OwnWalk
import Derived.Test.YthikllbfkagdnaaIpPlain
import Derived.Test.YthikllbfkagdnaaMem
import Derived.Test.YthikllbfkagdnaaOwn
import Derived.Test.YthikllbfkagdnaaUdpPlain
namespace Go.Proofs.Ythikllbfkagdnaa
open Go.ChangeShapes Go.WideShapes Go.ChangeAt Go.RowKit
set_option linter.unusedVariables false

set_option maxHeartbeats 400000 in
theorem uword (A : Option Addr) (n c : Nat) (l : List UInt8) (B : Nat) (w : World) (hn : l.length = n) (h : Bs w B A l) (k : Nat) (ki : Int) (hki : ki = (k : Int)) (hk : k + 1 < n) (hn2 : n ≤ 16777216) :
    Calls Try.prog 32 #[.slice A n c, .int .i64 ki] w fun e w' => e = .returned (.int .u16 (wd l k)) ∧ ∃ m, w' = w.drewN m := by
  subst hki
  obtain ⟨ad, rfl, hlt, hcell⟩ := g8_cells h (by omega)
  have c0 := hcell k (by omega)
  have c1 := hcell (k + 1) (by omega)
  rw [add_pos ad (k + 1) (by omega)] at c1
  have H := Go.Lib.hid hn
  clear hcell hn h
  have b0 := g8_lo l k
  have b1 := g8_hi l k
  have b2 := g8_lo l (k + 1)
  have b3 := g8_hi l (k + 1)
  have hw := u16_or8 (g8 l k) (g8 l (k + 1)) b0 b1 b2 b3
  have HE : Hid (wd l k = g8 l k * 256 + g8 l (k + 1)) := Go.Lib.hid rfl
  generalize g8 l k = x at *
  generalize g8 l (k + 1) = y at *
  have e1 := IntWalk.u16_in x (by omega)
  have e2 := IntWalk.u16_in y (by omega)
  have e3 := IntWalk.u16_in (x * 256) (by omega)
  have i0 : (k : Int) < (n : Int) := by omega
  have i1 : (k : Int) + 1 < (n : Int) := by omega
  have j0 : (0 : Int) ≤ (k : Int) := by omega
  have j1 : (0 : Int) ≤ (k : Int) + 1 := by omega
  have s1 : IntKind.i64.wrap ((k : Int) + 1) = (k : Int) + 1 := IntWalk.i64_in _ (by omega)
  have s2 : ((k : Int) + 1).toNat = k + 1 := by omega
  go_enter Try.func32, Try.ntmps32
  go_wp2
  go_quiet (fail)
  go_wp2
  go_ret
  exact ⟨ret_int HE.out.symm, _, rfl⟩

set_option maxHeartbeats 400000 in
theorem uupTo (n m : Int) (w : World) :
    Calls Try.prog 30 #[.int .i64 n, .int .i64 m] w fun e w' => e = .returned (.bool (upB n m)) ∧ w = w' := by
  unfold upB
  by_cases h0 : 0 ≤ n
  · by_cases h1 : n ≤ m
    · go_enter Try.func30, Try.ntmps30
      go_wp2
      go_ret
      exact ⟨by simp [h0, h1], rfl⟩
    · go_enter Try.func30, Try.ntmps30
      go_wp2
      go_ret
      exact ⟨by simp [h1], rfl⟩
  · go_enter Try.func30, Try.ntmps30
    go_wp2
    go_ret
    exact ⟨by simp; omega, rfl⟩

set_option maxHeartbeats 400000 in
theorem uputWord (w : World) (base g n c : Nat) (l : List UInt8) (h : Own w base g n c l) (k : Nat) (ki : Int) (hki : ki = (k : Int)) (hk : k + 1 < n) (hn : n ≤ 16777216) (x : Int) (x0 : 0 ≤ x) (x1 : x ≤ 65535) :
    Calls Try.prog 21 #[.slice (some ⟨g, 0, none⟩) n c, .int .i64 ki, .int .u16 x] w fun e w' => e = .returned (.tuple #[]) ∧ Own w' base g n c ((l.set k (b8 (x / 256))).set (k + 1) (b8 (x % 256))) ∧ Below base w w' := by
  subst hki
  have c0 := h.cellAt k (by omega)
  have c1 := h.cellAt (k + 1) (by omega)
  have r0 := h.frozenAt k
  have r1 := h.frozenAt (k + 1)
  obtain ⟨s1, s2⟩ := h.stored k (x / 256) (by omega) (by omega)
  obtain ⟨s3, s4⟩ := s1.stored (k + 1) (x % 256) (by omega) (by omega)
  have S := Go.Lib.hid (And.intro s3 (s2.trans s4))
  clear s1 s2 s3 s4 h
  have e1 := IntKind.wrap_u8 x
  have e2 := IntWalk.u8_in (x / 256) (by omega)
  go_enter Try.func21, Try.ntmps21
  go_wp2
  go_end0
  exact ⟨rfl, S.out⟩
end Go.Proofs.Ythikllbfkagdnaa
