/- Lemmas, several texts in one. -/
import Derived.Test.YtmblkgnjcmneeaaRows
import Derived.WalkKit
import Derived.ProofKit
import Derived.OpenShut
import Derived.Below
import Derived.Deep.QuietTactic
import Derived.Deep.RegionHeld3
import Derived.BigQuiet
import Derived.OwnWalk
import Derived.Test.YtmblkgnjcmneeaaQ01
import Derived.Maps.AppendAt
import Derived.Laws.OwnMore
import Derived.Laws.CopyOwn
import Derived.Deep.AppendLies
import Derived.Deep.DeepCutAuto
import Derived.StillTailTactics
import Derived.Deep.Onto
/- Contracts of package ip's small functions. -/
namespace Go.Proofs.Ytmblkgnjcmneeaa
open Go.ChangeShapes Go.WideShapes Go.ChangeAt Go.RowKit
set_option linter.unusedVariables false

set_option maxHeartbeats 400000 in
theorem cupTo (n m : Int) (w : World) :
    Calls Try.prog 42 #[.int .i64 n, .int .i64 m] w fun e w' => e = .returned (.bool (upB n m)) ∧ w = w' := by
  unfold upB
  by_cases h0 : 0 ≤ n
  · by_cases h1 : n ≤ m
    · go_enter Try.func42, Try.ntmps42
      go_wp2
      go_ret
      exact ⟨by simp [h0, h1], rfl⟩
    · go_enter Try.func42, Try.ntmps42
      go_wp2
      go_ret
      exact ⟨by simp [h1], rfl⟩
  · go_enter Try.func42, Try.ntmps42
    go_wp2
    go_ret
    exact ⟨by simp; omega, rfl⟩

/-- a packet as a value: its slices' addresses and capacities. -/
abbrev pkV (p : Pk) (Ao : Option Addr) (co : Nat) (Ab : Option Addr) (cb : Nat) : Value :=
  .agg #[.int .i64 p.tos, .int .i64 p.id, .bool p.df, .bool p.mf, .int .i64 p.off, .int .i64 p.ttl, .int .i64 p.proto, .int .u32 p.src, .int .u32 p.dst, .slice Ao p.opts.length co, .slice Ab p.body.length cb]

set_option maxHeartbeats 400000 in
theorem cheadLen (p : Pk) (Ao : Option Addr) (co : Nat) (Ab : Option Addr) (cb : Nat) (w : World) (ho : p.opts.length ≤ 16777216) :
    Calls Try.prog 44 #[pkV p Ao co Ab cb] w fun e w' => e = .returned (.int .i64 (20 + (p.opts.length : Int))) ∧ Below w.heap.size w w' := by
  go_enter Try.func44, Try.ntmps44
  go_wp2
  go_ret
  exact ⟨rfl, (Below.refl _ _).alloc (Nat.le_refl _) _⟩

theorem mod8 (n : Nat) : (((n : Int) % 8) == 0) = decide (n % 8 = 0) := by rw [Bool.eq_iff_iff]; simp; omega
set_option maxHeartbeats 1000000 in
theorem cpieceFits (p : Pk) (Ao : Option Addr) (co : Nat) (Ab : Option Addr) (cb : Nat) (w : World) (ho : p.opts.length ≤ 16777216) (hb : p.body.length ≤ 16777216) (f0 : 0 ≤ p.off) (f1 : p.off ≤ 65528) :
    Calls Try.prog 43 #[pkV p Ao co Ab cb] w fun e w' => e = .returned (.bool (fitsB p)) ∧ Below w.heap.size w w' := by
  unfold fitsB
  have e1 : IntKind.i64.wrap (20 + (p.opts.length : Int) + p.off) = 20 + (p.opts.length : Int) + p.off := IntWalk.i64_in _ (by omega)
  have e2 : IntKind.i64.wrap (20 + (p.opts.length : Int) + p.off + (p.body.length : Int)) = 20 + (p.opts.length : Int) + p.off + (p.body.length : Int) := IntWalk.i64_in _ (by omega)
  go_enter Try.func43, Try.ntmps43
  go_wp2
  go_region_held3 (fun w' => w'.cell? ⟨w.heap.size, 0, none⟩ = some (.int .i64 p.tos) ∧ w'.cell? ⟨w.heap.size, 1, none⟩ = some (.int .i64 p.id) ∧ w'.cell? ⟨w.heap.size, 2, none⟩ = some (.bool p.df) ∧ w'.cell? ⟨w.heap.size, 3, none⟩ = some (.bool p.mf) ∧ w'.cell? ⟨w.heap.size, 4, none⟩ = some (.int .i64 p.off) ∧ w'.cell? ⟨w.heap.size, 5, none⟩ = some (.int .i64 p.ttl) ∧ w'.cell? ⟨w.heap.size, 6, none⟩ = some (.int .i64 p.proto) ∧ w'.cell? ⟨w.heap.size, 7, none⟩ = some (.int .u32 p.src) ∧ w'.cell? ⟨w.heap.size, 8, none⟩ = some (.int .u32 p.dst) ∧ w'.cell? ⟨w.heap.size, 9, none⟩ = some (.slice Ao p.opts.length co) ∧ w'.cell? ⟨w.heap.size, 10, none⟩ = some (.slice Ab p.body.length cb) ∧ Below w.heap.size w w' ∧ w.heap.size < w'.heap.size)
    (first
      | (refine ⟨?_, ?_, ?_, ?_, ?_, ?_, ?_, ?_, ?_, ?_, ?_, below_drew ((Below.refl _ _).alloc (Nat.le_refl _) _), ?_⟩ <;> simp [go_sem])
      | (obtain ⟨h0, h1, h2, h3, h4, h5, h6, h7, h8, h9, h10, hbel, hlt⟩ := ‹_ ∧ _›; exact ⟨cells_keep hcall hlt h0, cells_keep hcall hlt h1, cells_keep hcall hlt h2, cells_keep hcall hlt h3, cells_keep hcall hlt h4, cells_keep hcall hlt h5, cells_keep hcall hlt h6, cells_keep hcall hlt h7, cells_keep hcall hlt h8, cells_keep hcall hlt h9, cells_keep hcall hlt h10, hbel.trans (hcall.mono hbel.size), Nat.lt_of_lt_of_le hlt hcall.size⟩))
    (first | (go_at_call 44; refine (cheadLen p Ao co Ab cb _ ho).mono ?_; rintro e w' ⟨rfl, hcall⟩))
  all_goals
    obtain ⟨h0, h1, h2, h3, h4, h5, h6, h7, h8, h9, h10, hbel, hlt⟩ := ‹_ ∧ _›
    clear hcall
    go_wp2
    all_goals (go_ret; refine ⟨ret_bool ?_, hbel⟩; clear h0 h1 h2 h3 h4 h5 h6 h7 h8 h9 h10 hbel hlt e1 e2)
    all_goals first | (simp [*]; done) | (simp [*, mod8]; done) | (simp; intro _; exfalso; omega)

theorem mod4 (n : Nat) : (((n : Int) % 4) == 0) = decide (n % 4 = 0) := by rw [Bool.eq_iff_iff]; simp; omega

set_option maxHeartbeats 2000000 in
theorem cmay (p : Pk) (Ao : Option Addr) (co : Nat) (Ab : Option Addr) (cb : Nat) (w : World) (ho : p.opts.length ≤ 16777216) (hb : p.body.length ≤ 16777216) :
    Calls Try.prog 23 #[pkV p Ao co Ab cb] w fun e w' => e = .returned (.bool (mayB p)) ∧ Below w.heap.size w w' := by
  unfold mayB
  have hm4 := mod4 p.opts.length
  by_cases h5 : upB p.off 65528 = true
  · have h5' := h5
    unfold upB at h5'
    simp only [Bool.and_eq_true, decide_eq_true_eq] at h5'
    obtain ⟨f0, f1⟩ := h5'
    go_enter Try.func23, Try.ntmps23
    go_wp2_with (first
      | (go_at_call 42; refine (cupTo _ _ _).mono ?_; rintro e w' ⟨rfl, rfl⟩)
      | (go_at_call 43; refine (cpieceFits p Ao co Ab cb _ ho hb f0 f1).mono ?_; rintro e w' ⟨rfl, hcall⟩))
    all_goals (go_ret; refine ⟨ret_bool ?_, ?_⟩)
    all_goals first | exact ((Below.refl _ _).alloc (Nat.le_refl _) _).trans (hcall.mono (by simp)) | exact (Below.refl _ _).alloc (Nat.le_refl _) _ | skip
    all_goals first | (simp [*]; done) | (have hy : p.opts.length ≤ 40 := (by omega); have hz : p.opts.length % 4 = 0 := (by omega); simp [*]; done) | (have hx : ¬ p.opts.length ≤ 40 := (by omega); simp [hx]; done)
  · go_enter Try.func23, Try.ntmps23
    go_wp2_with (first
      | (go_at_call 42; refine (cupTo _ _ _).mono ?_; rintro e w' ⟨rfl, rfl⟩))
    all_goals (go_ret; refine ⟨ret_bool ?_, ?_⟩)
    all_goals first | exact (Below.refl _ _).alloc (Nat.le_refl _) _ | skip
    all_goals (simp [*]; done)
end Go.Proofs.Ytmblkgnjcmneeaa

/- Contracts of package csum's Sum and Of. -/
namespace Go.Proofs.Ytmblkgnjcmneeaa
open Go.ChangeShapes Go.WideShapes Go.ChangeAt Go.RowKit

set_option maxHeartbeats 400000 in
theorem cfold (n : Int) (h0 : 0 ≤ n) (h1 : n ≤ 4611686018427387904) (w : World) :
    Calls Try.prog 70 #[.int .u64 n] w fun e w' => e = .returned (.int .u16 (fo n)) ∧ w = w' := by
  go_enter Try.func70, Try.ntmps70
  go_wp2
  go_loop [0] (fun t => ∃ m : Int, 0 ≤ m ∧ m ≤ 4611686018427387904 ∧ Hid (fo m = fo n) ∧ t = .int .u64 m) (fun t => (intOf t).toNat)
  case atStart => exact ⟨n, h0, h1, rfl, rfl⟩
  case round =>
    obtain ⟨m, m0, m1, hm, rfl⟩ := hrel
    by_cases hlt : 65535 < m
    · have hn := u64_and m 65535 m0 (by omega) (by omega) (by omega)
      have e2 : ((m.toNat &&& (65535:Int).toNat : Nat) : Int) = m % 65536 := by
        show ((m.toNat &&& 65535 : Nat) : Int) = _
        rw [nat_mask16]; omega
      rw [e2] at hn
      clear e2
      go_wp2
      go_round
      case rel => exact ⟨_, by omega, by omega, (fo_step m hlt).trans hm.out, rfl⟩
      case measure => simp [intOf]; omega
    · go_wp2
      go_ret
      exact ⟨ret_int (by rw [← hm.out, fo_small m m0 (by omega)]), rfl⟩

set_option maxHeartbeats 1000000 in
theorem csum (A : Option Addr) (c : Nat) (l : List UInt8) (B : Nat) (w : World) (h : Bs w B A l) (hl : l.length ≤ 16777216) (hlc : l.length ≤ c) (hc : c ≤ maxLen) :
    Calls Try.prog 64 #[.slice A l.length c] w fun e w' => e = .returned (.int .u16 (fo (tot l))) ∧ ∃ n, w' = w.drewN n := by
  unfold maxLen at hc
  go_enter Try.func64, Try.ntmps64
  go_wp2
  go_loopw [0, 3] (fun v t wr => ∃ (A' : Option Addr) (c' : Nat) (r : List UInt8) (s : Int), v = .slice A' r.length c' ∧ t = .int .u64 s ∧ 0 ≤ s ∧ Hid (s + tot r = tot l) ∧ Bs w B A' r ∧ r.length ≤ l.length ∧ r.length ≤ c' ∧ c' ≤ 9223372036854775807 ∧ ∃ n, wr = w.drewN n) (fun v _ _ => match v with | .slice _ n _ => n | _ => 0)
  case atStart => exact ⟨A, c, l, 0, rfl, rfl, by omega, by show 0 + tot l = tot l; omega, h, by omega, by omega, by omega, 0, rfl⟩
  case round =>
    obtain ⟨A', c', r, s, rfl, rfl, s0, hs, hb, hrl, hrc, hc', n, rfl⟩ := hrel
    have hb1 := tot_lo r
    have hb2 := tot_hi l
    have hb3 : s ≤ 65535 * (l.length : Int) := by have := hs.out; omega
    rcases r with _ | ⟨a, _ | ⟨b, r⟩⟩
    · have HS : Hid (s = tot l) := by have := hs.out; simp [tot] at this; exact this
      clear hs
      go_wp2_with (go_at_call 70; refine (cfold _ (by omega) (by omega) _).mono ?_; rintro e w' ⟨rfl, rfl⟩)
      go_ret
      exact ⟨ret_int (by rw [HS.out]), _, rfl⟩
    · rcases hb with hb | ⟨ad, rfl, hbl, hcell⟩
      · cases hb
      have ha := hcell 0 a rfl
      have ha1 := a.toNat_lt
      have hcell0 : (w.drewN n).cell? ad = some (.int .u8 (a.toNat : Int)) := ha
      clear hcell ha
      have HS : Hid (s + a.toNat * 256 = tot l) := by have := hs.out; simp only [tot] at this; show _ = _; omega
      clear hs
      simp only [tot] at hb1
      have hb4 : s + a.toNat * 256 ≤ 65535 * (l.length : Int) := by have := HS.out; omega
      go_wp2_with (go_at_call 70; refine (cfold _ (by omega) (by omega) _).mono ?_; rintro e w' ⟨rfl, rfl⟩)
      go_ret
      exact ⟨ret_int (by rw [HS.out]), _, rfl⟩
    · rcases hb with hb | ⟨ad, rfl, hbl, hcell⟩
      · cases hb
      have hc0 : w.cell? ad = some (.int .u8 (a.toNat : Int)) := hcell 0 a rfl
      have hc1 : w.cell? { block := ad.block, off := ad.off + 1 } = some (.int .u8 (b.toNat : Int)) := hcell 1 b rfl
      have ha1 := a.toNat_lt
      have hb1 := b.toNat_lt
      have HC := Go.Lib.hid hcell
      clear hcell
      have hlen : (a :: b :: r).length = r.length + 2 := rfl
      obtain ⟨m, hm⟩ : ∃ m, r.length + 2 = m := ⟨_, rfl⟩
      rw [hlen, hm] at hrl hrc ⊢
      have HM := Go.Lib.hid hm
      have hm2 : 2 ≤ m := by omega
      have hi0 : 0 < m := by omega
      have hi1 : (1 : Int) < (m : Int) := by omega
      have htr := tot_lo r
      have HS : Hid (s + (a.toNat * 256 + b.toNat) + tot r = tot l) := by have := hs.out; simp only [tot] at this; show _ = _; omega
      have hs2 : s + (a.toNat * 256 + b.toNat) ≤ 65535 * (l.length : Int) := by have := HS.out; omega
      clear hs hlen hm
      have ho := u64_or8 a.toNat b.toNat (by omega) (by omega) (by omega) (by omega)
      have hw := IntWalk.u64_in (s + (a.toNat * 256 + b.toNat)) (by omega)
      go_wp2
      go_quiet (fail)
      go_wp2
      go_roundw
      case rel =>
        refine ⟨_, c' - 2, r, _, by rw [← HM.out]; rfl, rfl, by omega, HS, ?_, by have := HM.out; omega, by have := HM.out; omega, by omega, _, rfl⟩
        by_cases hr : r = []
        · exact .inl hr
        · have : 0 < r.length := List.length_pos_iff.2 hr
          refine .inr ⟨{ block := ad.block, off := ad.off + 2 }, by rw [if_neg (by have := HM.out; omega)], hbl, fun j x hj => ?_⟩
          rw [add_shift ad 2 j (by omega), Nat.add_comm]
          exact HC.out (j + 2) x (by simpa using hj)
      case measure => simp; omega
end Go.Proofs.Ytmblkgnjcmneeaa

/- Contract of the check sum of bytes. -/
namespace Go.Proofs.Ytmblkgnjcmneeaa
open Go.ChangeShapes Go.WideShapes Go.ChangeAt Go.RowKit


set_option maxHeartbeats 400000 in
theorem cof (A : Option Addr) (c : Nat) (l : List UInt8) (B : Nat) (w : World) (h : Bs w B A l) (hl : l.length ≤ 16777216) (hlc : l.length ≤ c) (hc : c ≤ maxLen) :
    Calls Try.prog 48 #[.slice A l.length c] w fun e w' => e = .returned (.int .u16 (65535 - fo (tot l))) ∧ ∃ n, w' = w.drewN n := by
  have x1 := u16_not _ (fo_lo (tot l)) (fo_hi (tot l))
  have k1 : IntKind.u16.signed = false := rfl
  have k2 : IntKind.u16.max = 65535 := rfl
  go_enter Try.func48, Try.ntmps48
  go_wp2_with (go_at_call 64; refine (csum A c l B _ h hl hlc hc).mono ?_; rintro e w' ⟨rfl, n, rfl⟩)
  go_ret
  exact ⟨rfl, _, rfl⟩
end Go.Proofs.Ytmblkgnjcmneeaa

/- Contracts of package ip's writing functions: a word, an address, a head. -/
namespace Go.Proofs.Ytmblkgnjcmneeaa
open Go.ChangeShapes Go.WideShapes Go.ChangeAt Go.RowKit
set_option linter.unusedVariables false

theorem nat_or_two (a : Nat) (ha : a < 8192) : (16384 + a) ||| 8192 = 24576 + a := by
  have e1 : 16384 + a = 2 * 2 ^ 13 ||| a := by rw [nat_join 13 (2 * 2 ^ 13) a (by omega) (by omega)]
  have e2 : 24576 + a = 3 * 2 ^ 13 ||| a := by rw [nat_join 13 (3 * 2 ^ 13) a (by omega) (by omega)]
  rw [e1, e2, Nat.or_assoc, Nat.or_comm a, ← Nat.or_assoc]; rfl
theorem nat_or_one (a : Nat) (ha : a < 8192) : a ||| 8192 = 8192 + a := by
  have e1 : 8192 + a = 1 * 2 ^ 13 ||| a := by rw [nat_join 13 (1 * 2 ^ 13) a (by omega) (by omega)]
  rw [e1, Nat.or_comm]
theorem nat_or_df (a : Nat) (ha : a < 8192) : a ||| 16384 = 16384 + a := by
  have e1 : 16384 + a = 1 * 2 ^ 14 ||| a := by rw [nat_join 14 (1 * 2 ^ 14) a (by omega) (by omega)]
  rw [e1, Nat.or_comm]
theorem u16_bit (x b : Int) (n m : Nat) (r : Nat) (hx : x = (n : Int)) (hb : b = (m : Int)) (h1 : n ≤ 65535) (h2 : m ≤ 65535) (h : n ||| m = r) : bits .or .u16 x b = (r : Int) := by
  subst hx hb
  rw [u16_or _ _ (by omega) (by omega) (by omega) (by omega), Int.toNat_natCast, Int.toNat_natCast, h]

set_option maxHeartbeats 1000000 in
theorem coffWord (p : Pk) (Ao : Option Addr) (co : Nat) (Ab : Option Addr) (cb : Nat) (w : World) (f0 : 0 ≤ p.off) (f1 : p.off ≤ 65528) :
    Calls Try.prog 46 #[pkV p Ao co Ab cb] w fun e w' => e = .returned (.int .u16 (flg p)) ∧ Below w.heap.size w w' := by
  obtain ⟨x, hx⟩ : ∃ x, x = p.off / 8 := ⟨_, rfl⟩
  have hx' := hx.symm
  have x0 : 0 ≤ x := by omega
  have x1 : x ≤ 8191 := by omega
  have HF : Hid (flg p = x + (if p.mf then 8192 else 0) + (if p.df then 16384 else 0)) := by show _ = _; unfold flg; rw [hx]
  have y0 := IntWalk.u16_in x (by omega)
  have y1 : bits .or .u16 x 16384 = 16384 + x := by rw [u16_bit x 16384 x.toNat 16384 (16384 + x.toNat) (by omega) rfl (by omega) (by omega) (nat_or_df _ (by omega))]; omega
  have y2 : bits .or .u16 x 8192 = 8192 + x := by rw [u16_bit x 8192 x.toNat 8192 (8192 + x.toNat) (by omega) rfl (by omega) (by omega) (nat_or_one _ (by omega))]; omega
  have y3 : bits .or .u16 (16384 + x) 8192 = 24576 + x := by rw [u16_bit (16384 + x) 8192 (16384 + x.toNat) 8192 (24576 + x.toNat) (by omega) rfl (by omega) (by omega) (nat_or_two _ (by omega))]; omega
  clear hx
  obtain ⟨tos, id, df, mf, off, ttl, proto, src, dst, opts, body⟩ := p
  dsimp only at *
  cases df <;> cases mf
  all_goals
    go_enter Try.func46, Try.ntmps46
    go_wp2
    go_ret
    exact ⟨ret_int (by rw [HF.out]; simp; try omega), (Below.refl _ _).alloc (Nat.le_refl _) _⟩

set_option maxHeartbeats 400000 in
theorem cputWord (w : World) (base g n c : Nat) (l : List UInt8) (h : Own w base g n c l) (k : Nat) (ki : Int) (hki : ki = (k : Int)) (hk : k + 1 < n) (hn : n ≤ 16777216) (x : Int) (x0 : 0 ≤ x) (x1 : x ≤ 65535) :
    Calls Try.prog 45 #[.slice (some ⟨g, 0, none⟩) n c, .int .i64 ki, .int .u16 x] w fun e w' => e = .returned (.tuple #[]) ∧ Own w' base g n c ((l.set k (b8 (x / 256))).set (k + 1) (b8 (x % 256))) ∧ Below base w w' := by
  subst hki
  have c0 := h.cellAt k (by omega)
  have c1 := h.cellAt (k + 1) (by omega)
  have r0 := h.frozenAt k
  have r1 := h.frozenAt (k + 1)
  obtain ⟨s1, s2⟩ := h.stored k (x / 256) (by omega) (by omega)
  obtain ⟨s3, s4⟩ := s1.stored (k + 1) (x % 256) (by omega) (by omega)
  have S := Go.Lib.hid (And.intro s3 (s2.trans s4))
  clear s1 s2 s3 s4 h
  have e1 := IntKind.wrap_u8 x
  have e2 := IntWalk.u8_in (x / 256) (by omega)
  go_enter Try.func45, Try.ntmps45
  go_wp2
  go_end0
  exact ⟨rfl, S.out⟩

set_option maxHeartbeats 400000 in
theorem cputAddr (w : World) (base g n c : Nat) (l : List UInt8) (h : Own w base g n c l) (k : Nat) (ki : Int) (hki : ki = (k : Int)) (hk : k + 3 < n) (hn : n ≤ 16777216) (x : Int) (x0 : 0 ≤ x) (x1 : x ≤ 4294967295) :
    Calls Try.prog 47 #[.slice (some ⟨g, 0, none⟩) n c, .int .i64 ki, .int .u32 x] w fun e w' => e = .returned (.tuple #[]) ∧
      Own w' base g n c ((((l.set k (b8 (x / 65536 / 256))).set (k + 1) (b8 (x / 65536 % 256))).set (k + 2) (b8 (x % 65536 / 256))).set (k + 2 + 1) (b8 (x % 65536 % 256))) ∧ Below base w w' := by
  subst hki
  have H := Go.Lib.hid h
  clear h
  have e1 := IntKind.wrap_u16 x
  have e2 := IntWalk.u16_in (x / 65536) (by omega)
  have s1 : IntKind.i64.wrap ((k : Int) + 2) = (k : Int) + 2 := IntWalk.i64_in _ (by omega)
  go_enter Try.func47, Try.ntmps47
  go_wp2_with fail
  refine (cputWord w base g n c l H.out k _ rfl (by omega) hn (x / 65536) (by omega) (by omega)).mono ?_
  rintro e w1 ⟨rfl, h1, b1⟩
  go_wp2_with fail
  refine (cputWord w1 base g n c _ h1 (k + 2) _ (by omega) (by omega) hn (x % 65536) (by omega) (by omega)).mono ?_
  rintro e w2 ⟨rfl, h2, b2⟩
  go_wp2
  go_end0
  exact ⟨rfl, h2, b1.trans b2⟩

theorem cheadLenN (p : Pk) (Ao : Option Addr) (co : Nat) (Ab : Option Addr) (cb : Nat) (n : Nat) (hn : n = 20 + p.opts.length) (w : World) (ho : p.opts.length ≤ 16777216) :
    Calls Try.prog 44 #[pkV p Ao co Ab cb] w fun e w' => e = .returned (.int .i64 (n : Int)) ∧ Below w.heap.size w w' :=
  (cheadLen p Ao co Ab cb w ho).mono fun e w' ⟨he, hw⟩ => ⟨by rw [he]; exact ret_int (by omega), hw⟩

/-- a packet that was boxed by the call is still there. -/
def Bx (p : Pk) (Ao : Option Addr) (co : Nat) (Ab : Option Addr) (cb : Nat) (w w' : World) : Prop :=
  Below (w.heap.size + 1) (w.alloc (.cells #[.int .i64 p.tos, .int .i64 p.id, .bool p.df, .bool p.mf, .int .i64 p.off, .int .i64 p.ttl, .int .i64 p.proto, .int .u32 p.src, .int .u32 p.dst, .slice Ao p.opts.length co, .slice Ab p.body.length cb] 25)) w'
section
variable {p : Pk} {Ao : Option Addr} {co : Nat} {Ab : Option Addr} {cb : Nat} {w w' w'' : World}
theorem Bx.start : Bx p Ao co Ab cb w (w.alloc (.cells #[.int .i64 p.tos, .int .i64 p.id, .bool p.df, .bool p.mf, .int .i64 p.off, .int .i64 p.ttl, .int .i64 p.proto, .int .u32 p.src, .int .u32 p.dst, .slice Ao p.opts.length co, .slice Ab p.body.length cb] 25)) := Below.refl _ _
theorem Bx.size (h : Bx p Ao co Ab cb w w') : w.heap.size + 1 ≤ w'.heap.size := by have := Below.size h; simpa using this
theorem Bx.step (h : Bx p Ao co Ab cb w w') (hb : Below (w.heap.size + 1) w' w'') : Bx p Ao co Ab cb w w'' := Below.trans h hb
theorem Bx.call (h : Bx p Ao co Ab cb w w') (hb : Below w'.heap.size w' w'') : Bx p Ao co Ab cb w w'' := Below.trans h (hb.mono h.size)
theorem Bx.below (h : Bx p Ao co Ab cb w w') : Below w.heap.size w w' := ((Below.refl _ _).alloc (Nat.le_refl _) _).trans (Below.mono h (Nat.le_succ _))
theorem Bx.cells (h : Bx p Ao co Ab cb w w') : w'.cell? ⟨w.heap.size, 0, none⟩ = some (.int .i64 p.tos) ∧ w'.cell? ⟨w.heap.size, 1, none⟩ = some (.int .i64 p.id) ∧ w'.cell? ⟨w.heap.size, 2, none⟩ = some (.bool p.df) ∧ w'.cell? ⟨w.heap.size, 3, none⟩ = some (.bool p.mf) ∧ w'.cell? ⟨w.heap.size, 4, none⟩ = some (.int .i64 p.off) ∧ w'.cell? ⟨w.heap.size, 5, none⟩ = some (.int .i64 p.ttl) ∧ w'.cell? ⟨w.heap.size, 6, none⟩ = some (.int .i64 p.proto) ∧ w'.cell? ⟨w.heap.size, 7, none⟩ = some (.int .u32 p.src) ∧ w'.cell? ⟨w.heap.size, 8, none⟩ = some (.int .u32 p.dst) ∧ w'.cell? ⟨w.heap.size, 9, none⟩ = some (.slice Ao p.opts.length co) ∧ w'.cell? ⟨w.heap.size, 10, none⟩ = some (.slice Ab p.body.length cb) := by
  have hc := fun (o : Nat) => Below.cell h (p := ⟨w.heap.size, o, none⟩) (Nat.lt_succ_self _)
  refine ⟨?_, ?_, ?_, ?_, ?_, ?_, ?_, ?_, ?_, ?_, ?_⟩ <;> (refine (hc _).trans ?_; simp [go_sem])
end

theorem cof_n (A : Option Addr) (n c : Nat) (l : List UInt8) (B : Nat) (w : World) (hn : l.length = n) (h : Bs w B A l) (hl : n ≤ 16777216) (hlc : n ≤ c) (hc : c ≤ 9223372036854775807) :
    Calls Try.prog 48 #[.slice A n c] w fun e w' => e = .returned (.int .u16 (65535 - fo (tot l))) ∧ ∃ n, w' = w.drewN n := by
  subst hn
  exact cof A c l B w h hl hlc (by unfold maxLen; omega)

theorem or64 : ∀ x : Fin 64, bits .or .i64 64 (x.val : Int) = 64 + (x.val : Int) := by decide +kernel
theorem i64_or64 (x : Int) (h0 : 0 ≤ x) (h1 : x < 64) : bits .or .i64 64 x = 64 + x := by
  have := or64 ⟨x.toNat, by omega⟩
  simpa [Int.toNat_of_nonneg h0] using this
theorem flg_lo (p : Pk) (h : 0 ≤ p.off) : 0 ≤ flg p := by unfold flg; split <;> split <;> omega
theorem flg_hi (p : Pk) (h : p.off ≤ 65528) : flg p ≤ 65535 := by unfold flg; split <;> split <;> omega

theorem sets_head (n m : Nat) (hn : n = 20 + m) (x0 x1 x2 x3 x4 x5 x6 x7 x8 x9 x12 x13 x14 x15 x16 x17 x18 x19 : UInt8) :
    ((((((((((((((((((List.replicate n (0 : UInt8)).set 0 x0).set 1 x1).set 2 x2).set (2 + 1) x3).set 4 x4).set (4 + 1) x5).set 6 x6).set (6 + 1) x7).set 8 x8).set 9 x9).set 12 x12).set (12 + 1) x13).set (12 + 2) x14).set (12 + 2 + 1) x15).set 16 x16).set (16 + 1) x17).set (16 + 2) x18).set (16 + 2 + 1) x19
      = [x0, x1, x2, x3, x4, x5, x6, x7, x8, x9, 0, 0, x12, x13, x14, x15, x16, x17, x18, x19] ++ List.replicate m 0 := by
  subst hn
  rw [← List.replicate_append_replicate]
  generalize List.replicate m (0 : UInt8) = R
  have e : List.replicate 20 (0 : UInt8) ++ R = 0 :: 0 :: 0 :: 0 :: 0 :: 0 :: 0 :: 0 :: 0 :: 0 :: 0 :: 0 :: 0 :: 0 :: 0 :: 0 :: 0 :: 0 :: 0 :: 0 :: R := rfl
  rw [e]
  simp only [List.set_cons_succ, List.set_cons_zero, Nat.reduceAdd, List.cons_append, List.nil_append]

set_option maxRecDepth 100000 in
set_option maxHeartbeats 4000000 in
theorem cputHead (p : Pk) (Ao : Option Addr) (co : Nat) (Ab : Option Addr) (cb : Nat) (w : World) (hM : May p) (hs0 : 0 ≤ p.src) (hs1 : p.src ≤ 4294967295) (hd0 : 0 ≤ p.dst) (hd1 : p.dst ≤ 4294967295)
    (hAo : Bs w w.heap.size Ao p.opts) :
    Calls Try.prog 24 #[pkV p Ao co Ab cb] w fun e w' => ∃ g c, e = .returned (.slice (some ⟨g, 0, none⟩) (20 + p.opts.length) c) ∧ Own w' w.heap.size g (20 + p.opts.length) c (hd p (chk p)) ∧ Below w.heap.size w w' := by
  obtain ⟨i0, hi, hz0, hz1, hz2⟩ := info_parts info_byte
  obtain ⟨t0, t1, l0, l1, r0, r1, d0, d1, f0, f1, f8, p40, p4, fit, mf⟩ := hM
  obtain ⟨n, hn⟩ : ∃ n : Nat, n = 20 + p.opts.length := ⟨_, rfl⟩
  obtain ⟨c, hc⟩ : ∃ c : Nat, c = n + p.body.length := ⟨_, rfl⟩
  have HN := Go.Lib.hid hn
  have HC := Go.Lib.hid hc
  have hn60 : n ≤ 60 := by omega
  have hn20 : 20 ≤ n := by omega
  have hb65 : p.body.length ≤ 65535 := by omega
  have hc65 : c ≤ 65535 := by omega
  have hnc : n ≤ c := by omega
  have hc' : (n : Int) + (p.body.length : Int) = (c : Int) := by omega
  have hmk : ∀ W : World, (Instr.makeSlice 23 (.int .i64 (n : Int)) (.int .i64 (c : Int))).run Try.prog W = .ok (.slice (some ⟨W.heap.size, 0, none⟩) n c) (W.alloc (.cells (madeCells #[.int .u8 0] c) 5)) := by
    intro W
    have := run_make (P := Try.prog) W 23 5 i0 (.int .u8 0) Try.underlying23 hi hz0 .i64 .i64 n c (by omega) (by omega) (by rw [hz2]; omega) (by omega)
    simpa [hz1, Value.cells] using this
  have e1 := IntWalk.i64_in (n : Int) (by omega)
  have e2 : IntKind.i64.wrap ((n : Int) + (p.body.length : Int)) = (c : Int) := by rw [hc']; exact IntWalk.i64_in _ (by omega)
  clear hn hc hc'
  go_enter Try.func24, Try.ntmps24
  go_wp2_with fail
  refine (cheadLenN p Ao co Ab cb n HN.out _ (by omega)).mono ?_
  rintro e w1 ⟨rfl, hb1⟩
  dsimp only
  have x1 := (Bx.start (p := p) (Ao := Ao) (co := co) (Ab := Ab) (cb := cb) (w := w)).call hb1
  clear hb1
  obtain ⟨_, _, _, _, _, _, _, _, _, _, k10⟩ := x1.cells
  go_upto_region 4 with fail
  have o1 := own_made w1 (w.heap.size + 1) n c x1.size hnc (by unfold maxLen; omega)
  have x2 := x1.step ((Below.refl _ _).alloc x1.size (.cells (madeCells #[.int .u8 0] c) 5))
  clear x1 k10 hmk
  generalize w1.alloc (.cells (madeCells #[.int .u8 0] c) 5) = w2 at *
  generalize w1.heap.size = g at *
  have y1 := i64_or64 ((n : Int) / 4) (by omega) (by omega)
  have y2 := IntWalk.u8_in (64 + (n : Int) / 4) (by omega)
  have i0 : 0 < n := by omega
  have c0 := o1.cellAt 0 (by omega)
  have z0 := o1.frozenAt 0
  go_upto_region 5 with fail
  obtain ⟨o2, b2⟩ := o1.stored 0 (64 + (n : Int) / 4) (by omega) (by omega)
  have x3 := x2.step b2
  clear y1 y2 i0 c0 z0 o1 x2 b2
  generalize w2.setCell ⟨g, 0, none⟩ (.int .u8 (64 + (n : Int) / 4)) = w3 at *
  obtain ⟨kk, _, _, _, _, _, _, _, _, _, _⟩ := x3.cells
  have y1 := IntWalk.u8_in p.tos (by omega)
  have i0 : (1 : Int) < (n : Int) := by omega
  have c0 := o2.cellAt 1 (by omega)
  have z0 := o2.frozenAt 1
  go_upto_region 6 with fail
  obtain ⟨o3, b3⟩ := o2.stored 1 p.tos (by omega) (by omega)
  have x4 := x3.step b3
  clear y1 i0 c0 z0 o2 x3 b3 kk
  generalize w3.setCell ⟨g, 1, none⟩ (.int .u8 p.tos) = w4 at *
  have y1 := IntWalk.u16_in (c : Int) (by omega)
  go_wp2_with fail
  refine (cputWord w4 (w.heap.size + 1) g n c _ o3 2 _ rfl (by omega) (by omega) (c : Int) (by omega) (by omega)).mono ?_
  rintro e w5 ⟨rfl, o4, b4⟩
  dsimp only
  have x5 := x4.step b4
  clear y1 o3 x4 b4
  obtain ⟨_, kk, _, _, _, _, _, _, _, _, _⟩ := x5.cells
  have y1 := IntWalk.u16_in p.id (by omega)
  go_wp2_with fail
  refine (cputWord w5 (w.heap.size + 1) g n c _ o4 4 _ rfl (by omega) (by omega) p.id (by omega) (by omega)).mono ?_
  rintro e w6 ⟨rfl, o5, b5⟩
  dsimp only
  have x6 := x5.step b5
  clear y1 o4 x5 b5 kk
  obtain ⟨k0, k1, k2, k3, k4, k5, k6, k7, k8, k9, k10⟩ := x6.cells
  go_wp2_with fail
  refine (coffWord p Ao co Ab cb w6 f0 f1).mono ?_
  rintro e w7 ⟨rfl, b6⟩
  dsimp only
  have o6 := o5.below b6
  have x7 := x6.call b6
  clear o5 x6 b6 k0 k1 k2 k3 k4 k5 k6 k7 k8 k9 k10
  have q0 := flg_lo p f0
  have q1 := flg_hi p f1
  go_wp2_with fail
  refine (cputWord w7 (w.heap.size + 1) g n c _ o6 6 _ rfl (by omega) (by omega) (flg p) (by omega) (by omega)).mono ?_
  rintro e w8 ⟨rfl, o7, b7⟩
  dsimp only
  have x8 := x7.step b7
  clear o6 x7 b7
  obtain ⟨_, _, _, _, _, kk, _, _, _, _, _⟩ := x8.cells
  have y1 := IntWalk.u8_in p.ttl (by omega)
  have i0 : (8 : Int) < (n : Int) := by omega
  have c0 := o7.cellAt 8 (by omega)
  have z0 := o7.frozenAt 8
  go_upto_region 10 with fail
  obtain ⟨o8, b8⟩ := o7.stored 8 p.ttl (by omega) (by omega)
  have x9 := x8.step b8
  clear y1 i0 c0 z0 o7 x8 b8 kk
  generalize w8.setCell ⟨g, 8, none⟩ (.int .u8 p.ttl) = w9 at *
  obtain ⟨_, _, _, _, _, _, kk, _, _, _, _⟩ := x9.cells
  have y1 := IntWalk.u8_in p.proto (by omega)
  have i0 : (9 : Int) < (n : Int) := by omega
  have c0 := o8.cellAt 9 (by omega)
  have z0 := o8.frozenAt 9
  go_upto_region 11 with fail
  obtain ⟨o9, b9⟩ := o8.stored 9 p.proto (by omega) (by omega)
  have x10 := x9.step b9
  clear y1 i0 c0 z0 o8 x9 b9 kk
  generalize w9.setCell ⟨g, 9, none⟩ (.int .u8 p.proto) = w10 at *
  obtain ⟨_, _, _, _, _, _, _, kk, _, _, _⟩ := x10.cells
  go_wp2_with fail
  refine (cputAddr w10 (w.heap.size + 1) g n c _ o9 12 _ rfl (by omega) (by omega) p.src hs0 hs1).mono ?_
  rintro e w11 ⟨rfl, o10, b10⟩
  dsimp only
  have x11 := x10.step b10
  clear o9 x10 b10 kk
  obtain ⟨_, _, _, _, _, _, _, _, kk, _, _⟩ := x11.cells
  go_wp2_with fail
  refine (cputAddr w11 (w.heap.size + 1) g n c _ o10 16 _ rfl (by omega) (by omega) p.dst hd0 hd1).mono ?_
  rintro e w12 ⟨rfl, o11, b11⟩
  dsimp only
  have x12 := x11.step b11
  clear o10 x11 b11 kk
  obtain ⟨_, _, _, _, _, _, _, _, _, k9, _⟩ := x12.cells
  have i20 : (20 : Int) ≤ (n : Int) := by omega
  have i20n : 20 ≤ n := by omega
  go_upto_region 13 with fail
  go_still_tail 4, (by kernel_rfl)
  change wpList _ _ _ _ _ w12.drew
  have o12 : Own w12.drew (w.heap.size + 1) g n c _ := o11
  have x13 : Bx p Ao co Ab cb w w12.drew := below_drew x12
  clear o11 x12 k9
  generalize w12.drew = w13 at *
  rw [sets_head n p.opts.length HN.out] at o12
  obtain ⟨cur, g1, g2, g3⟩ := o12.block
  have hop : Bs w13 w.heap.size Ao p.opts := hAo.below x13.below
  have hNN := HN.out
  have HA : 0 < p.opts.length → (if c = 20 then (some ⟨g, 0, none⟩ : Option Addr) else some ⟨g, 20, none⟩) = some ⟨g, 20, none⟩ := fun h => if_neg (by omega)
  generalize (if c = 20 then (some ⟨g, 0, none⟩ : Option Addr) else some ⟨g, 20, none⟩) = A59 at *
  refine wpList_copy_splice rfl _ _ 23 23 rfl 5 Try.underlying23 (by rw [hi]; simp [hz1]) A59 Ao (n - 20) (c - 20) p.opts.length co ?_ rfl g 20 cur 5 g1 (p.opts.map bv) ?_ ?_ ?_ (bv_one _) (w.heap.size + 1) w13 (Below.refl _ _) o12.lt.1 ?_
  · rfl
  · show _ = min _ _; simp; omega
  · intro hpos
    have hpos' : 0 < p.opts.length := by simpa using hpos
    refine ⟨HA hpos', ?_⟩
    rcases hop.rd with h | ⟨ad, e, _, h⟩
    · simp at h; rw [h] at hpos'; simp at hpos'
    · exact ⟨ad, e, h⟩
  · simp; omega
  intro w14 g4 b13
  have ht : (splice cur 20 (p.opts.map bv)).take n = (hd p 0).map bv := by
    rw [hNN, take_splice 20 (by rw [← hNN]; exact g3) (by omega)]
    congr 1
    have w0 : 64 + (n : Int) / 4 = 64 + hln p / 4 := by unfold hln; omega
    have w1 : (c : Int) = whl p := by have := HC.out; unfold whl hln; omega
    have v1 : p.src / 65536 / 256 = p.src / 16777216 := by omega
    have v2 : p.src % 65536 / 256 = p.src / 256 % 256 := by omega
    have v3 : p.src % 65536 % 256 = p.src % 256 := by omega
    have v4 : p.dst / 65536 / 256 = p.dst / 16777216 := by omega
    have v5 : p.dst % 65536 / 256 = p.dst / 256 % 256 := by omega
    have v6 : p.dst % 65536 % 256 = p.dst % 256 := by omega
    rw [w0, w1, v1, v2, v3, v4, v5, v6]
    rfl
  have o13 : Own w14 (w.heap.size + 1) g n c (hd p 0) := Own.of_block o12.lt.1 g4.out (by rw [length_splice _ _ _ (by simp; omega)]; exact g2) hnc (by unfold maxLen; omega) (by rw [hd_length]; omega) ht
  have x14 := x13.step b13
  clear g1 g2 g3 g4 b13 ht hop x13 o12 hNN HA
  clear cur
  have c1 := chk_lo p
  have c2 := chk_hi p
  go_wp2_with fail
  refine (cof_n (some ⟨g, 0, none⟩) n c (hd p 0) _ w14 o13.len o13.bs (by omega) hnc (by omega)).mono ?_
  rintro e w15 ⟨rfl, m, rfl⟩
  have o14 : Own (w14.drewN m) (w.heap.size + 1) g n c (hd p 0) := o13
  have x15 : Bx p Ao co Ab cb w (w14.drewN m) := below_dn x14 m
  clear o13 x14
  generalize w14.drewN m = w15 at *
  dsimp only
  have HK : Hid (65535 - fo (tot (hd p 0)) = chk p) := Go.Lib.hid rfl
  rw [HK.out]
  go_wp2_with fail
  refine (cputWord w15 (w.heap.size + 1) g n c _ o14 10 _ rfl (by omega) (by omega) (chk p) c1 c2).mono ?_
  rintro e w16 ⟨rfl, o15, b15⟩
  dsimp only
  have x16 := x15.step b15
  clear x15 o14 b15
  have HE : (((hd p 0).set 10 (b8 (chk p / 256))).set (10 + 1) (b8 (chk p % 256))) = hd p (chk p) := by
    unfold hd hd20
    simp only [List.set_cons_succ, List.set_cons_zero, Nat.reduceAdd, List.cons_append, List.nil_append]
  rw [HE] at o15
  go_wp2
  have HR := HN.out
  go_ret
  exact ⟨g, c, by rw [HR]; rfl, HR ▸ World.ownsRow.mono o15 (Nat.le_succ _), x16.below⟩
end Go.Proofs.Ytmblkgnjcmneeaa
