/- Contracts of package csum's Sum and Of. -/
import Derived.Test.YtndhiopfkgdhcaaRows
import Derived.WalkKit
import Derived.ProofKit
import Derived.OpenShut
import Derived.Below
import Derived.Deep.QuietTactic
import Derived.BigQuiet
import Derived.OwnWalk
import Derived.Maps.AppendAt
import Derived.Test.YtndhiopfkgdhcaaPlain
import Derived.Test.YtndhiopfkgdhcaaMem
namespace Go.Proofs.Ytndhiopfkgdhcaa
open Go.ChangeShapes Go.WideShapes Go.ChangeAt Go.RowKit

set_option maxHeartbeats 400000 in
theorem cfold (n : Int) (h0 : 0 ≤ n) (h1 : n ≤ 4611686018427387904) (w : World) :
    Calls Try.prog 50 #[.int .u64 n] w fun e w' => e = .returned (.int .u16 (fo n)) ∧ w = w' := by
  go_enter Try.func50, Try.ntmps50
  go_wp2
  go_loop [0] (fun t => ∃ m : Int, 0 ≤ m ∧ m ≤ 4611686018427387904 ∧ Hid (fo m = fo n) ∧ t = .int .u64 m) (fun t => (intOf t).toNat)
  case atStart => exact ⟨n, h0, h1, rfl, rfl⟩
  case round =>
    obtain ⟨m, m0, m1, hm, rfl⟩ := hrel
    by_cases hlt : 65535 < m
    · have hn := u64_and m 65535 m0 (by omega) (by omega) (by omega)
      have e2 : ((m.toNat &&& (65535:Int).toNat : Nat) : Int) = m % 65536 := by
        show ((m.toNat &&& 65535 : Nat) : Int) = _
        rw [nat_mask16]; omega
      rw [e2] at hn
      clear e2
      go_wp2
      go_round
      case rel => exact ⟨_, by omega, by omega, (fo_step m hlt).trans hm.out, rfl⟩
      case measure => simp [intOf]; omega
    · go_wp2
      go_ret
      exact ⟨ret_int (by rw [← hm.out, fo_small m m0 (by omega)]), rfl⟩

set_option maxHeartbeats 1000000 in
theorem csum (A : Option Addr) (c : Nat) (l : List UInt8) (B : Nat) (w : World) (h : Bs w B A l) (hl : l.length ≤ 16777216) (hlc : l.length ≤ c) (hc : c ≤ maxLen) :
    Calls Try.prog 37 #[.slice A l.length c] w fun e w' => e = .returned (.int .u16 (fo (tot l))) ∧ ∃ n, w' = w.drewN n := by
  unfold maxLen at hc
  go_enter Try.func37, Try.ntmps37
  go_wp2
  go_loopw [0, 3] (fun v t wr => ∃ (A' : Option Addr) (c' : Nat) (r : List UInt8) (s : Int), v = .slice A' r.length c' ∧ t = .int .u64 s ∧ 0 ≤ s ∧ Hid (s + tot r = tot l) ∧ Bs w B A' r ∧ r.length ≤ l.length ∧ r.length ≤ c' ∧ c' ≤ 9223372036854775807 ∧ ∃ n, wr = w.drewN n) (fun v _ _ => match v with | .slice _ n _ => n | _ => 0)
  case atStart => exact ⟨A, c, l, 0, rfl, rfl, by omega, by show 0 + tot l = tot l; omega, h, by omega, by omega, by omega, 0, rfl⟩
  case round =>
    obtain ⟨A', c', r, s, rfl, rfl, s0, hs, hb, hrl, hrc, hc', n, rfl⟩ := hrel
    have hb1 := tot_lo r
    have hb2 := tot_hi l
    have hb3 : s ≤ 65535 * (l.length : Int) := by have := hs.out; omega
    rcases r with _ | ⟨a, _ | ⟨b, r⟩⟩
    · have HS : Hid (s = tot l) := by have := hs.out; simp [tot] at this; exact this
      clear hs
      go_wp2_with (go_at_call 50; refine (cfold _ (by omega) (by omega) _).mono ?_; rintro e w' ⟨rfl, rfl⟩)
      go_ret
      exact ⟨ret_int (by rw [HS.out]), _, rfl⟩
    · rcases hb with hb | ⟨ad, rfl, hbl, hcell⟩
      · cases hb
      have ha := hcell 0 a rfl
      have ha1 := a.toNat_lt
      have hcell0 : (w.drewN n).cell? ad = some (.int .u8 (a.toNat : Int)) := ha
      clear hcell ha
      have HS : Hid (s + a.toNat * 256 = tot l) := by have := hs.out; simp only [tot] at this; show _ = _; omega
      clear hs
      simp only [tot] at hb1
      have hb4 : s + a.toNat * 256 ≤ 65535 * (l.length : Int) := by have := HS.out; omega
      go_wp2_with (go_at_call 50; refine (cfold _ (by omega) (by omega) _).mono ?_; rintro e w' ⟨rfl, rfl⟩)
      go_ret
      exact ⟨ret_int (by rw [HS.out]), _, rfl⟩
    · rcases hb with hb | ⟨ad, rfl, hbl, hcell⟩
      · cases hb
      have hc0 : w.cell? ad = some (.int .u8 (a.toNat : Int)) := hcell 0 a rfl
      have hc1 : w.cell? { block := ad.block, off := ad.off + 1 } = some (.int .u8 (b.toNat : Int)) := hcell 1 b rfl
      have ha1 := a.toNat_lt
      have hb1 := b.toNat_lt
      have HC := Go.Lib.hid hcell
      clear hcell
      have hlen : (a :: b :: r).length = r.length + 2 := rfl
      obtain ⟨m, hm⟩ : ∃ m, r.length + 2 = m := ⟨_, rfl⟩
      rw [hlen, hm] at hrl hrc ⊢
      have HM := Go.Lib.hid hm
      have hm2 : 2 ≤ m := by omega
      have hi0 : 0 < m := by omega
      have hi1 : (1 : Int) < (m : Int) := by omega
      have htr := tot_lo r
      have HS : Hid (s + (a.toNat * 256 + b.toNat) + tot r = tot l) := by have := hs.out; simp only [tot] at this; show _ = _; omega
      have hs2 : s + (a.toNat * 256 + b.toNat) ≤ 65535 * (l.length : Int) := by have := HS.out; omega
      clear hs hlen hm
      have ho := u64_or8 a.toNat b.toNat (by omega) (by omega) (by omega) (by omega)
      have hw := IntWalk.u64_in (s + (a.toNat * 256 + b.toNat)) (by omega)
      go_wp2
      go_quiet (fail)
      go_wp2
      go_roundw
      case rel =>
        refine ⟨_, c' - 2, r, _, by rw [← HM.out]; rfl, rfl, by omega, HS, ?_, by have := HM.out; omega, by have := HM.out; omega, by omega, _, rfl⟩
        by_cases hr : r = []
        · exact .inl hr
        · have : 0 < r.length := List.length_pos_iff.2 hr
          refine .inr ⟨{ block := ad.block, off := ad.off + 2 }, by rw [if_neg (by have := HM.out; omega)], hbl, fun j x hj => ?_⟩
          rw [add_shift ad 2 j (by omega), Nat.add_comm]
          exact HC.out (j + 2) x (by simpa using hj)
      case measure => simp; omega
end Go.Proofs.Ytndhiopfkgdhcaa
