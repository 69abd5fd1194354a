/- Contracts of package ip's small functions. -/
import Derived.Test.YtndhiopfkgdhcaaRows
import Derived.WalkKit
import Derived.ProofKit
import Derived.OpenShut
import Derived.Below
import Derived.Deep.QuietTactic
import Derived.Deep.RegionHeld3
import Derived.BigQuiet
import Derived.OwnWalk
import Derived.Test.YtndhiopfkgdhcaaIpPlain
import Derived.Test.YtndhiopfkgdhcaaMem
import Derived.Test.YtndhiopfkgdhcaaOwn
namespace Go.Proofs.Ytndhiopfkgdhcaa
open Go.ChangeShapes Go.WideShapes Go.ChangeAt Go.RowKit
set_option linter.unusedVariables false

set_option maxHeartbeats 400000 in
theorem cword (A : Option Addr) (n c : Nat) (l : List UInt8) (B : Nat) (w : World) (hn : l.length = n) (h : Bs w B A l) (k : Nat) (ki : Int) (hki : ki = (k : Int)) (hk : k + 1 < n) (hn2 : n ≤ 16777216) :
    Calls Try.prog 53 #[.slice A n c, .int .i64 ki] w fun e w' => e = .returned (.int .u16 (wd l k)) ∧ ∃ m, w' = w.drewN m := by
  subst hki
  obtain ⟨ad, rfl, hlt, hcell⟩ := g8_cells h (by omega)
  have c0 := hcell k (by omega)
  have c1 := hcell (k + 1) (by omega)
  rw [add_pos ad (k + 1) (by omega)] at c1
  have H := Go.Lib.hid hn
  clear hcell hn h
  have b0 := g8_lo l k
  have b1 := g8_hi l k
  have b2 := g8_lo l (k + 1)
  have b3 := g8_hi l (k + 1)
  have hw := u16_or8 (g8 l k) (g8 l (k + 1)) b0 b1 b2 b3
  have HE : Hid (wd l k = g8 l k * 256 + g8 l (k + 1)) := Go.Lib.hid rfl
  generalize g8 l k = x at *
  generalize g8 l (k + 1) = y at *
  have e1 := IntWalk.u16_in x (by omega)
  have e2 := IntWalk.u16_in y (by omega)
  have e3 := IntWalk.u16_in (x * 256) (by omega)
  have i0 : (k : Int) < (n : Int) := by omega
  have i1 : (k : Int) + 1 < (n : Int) := by omega
  have j0 : (0 : Int) ≤ (k : Int) := by omega
  have j1 : (0 : Int) ≤ (k : Int) + 1 := by omega
  have s1 : IntKind.i64.wrap ((k : Int) + 1) = (k : Int) + 1 := IntWalk.i64_in _ (by omega)
  have s2 : ((k : Int) + 1).toNat = k + 1 := by omega
  go_enter Try.func53, Try.ntmps53
  go_wp2
  go_quiet (fail)
  go_wp2
  go_ret
  exact ⟨ret_int HE.out.symm, _, rfl⟩

theorem u32_or16 (a b : Int) (a0 : 0 ≤ a) (a1 : a ≤ 65535) (b0 : 0 ≤ b) (b1 : b ≤ 65535) : bits .or .u32 (a * 65536) b = a * 65536 + b := by
  rw [u32_or _ _ (by omega) (by omega) b0 (by omega), nat_join 16 _ _ (by omega) (by omega)]
  omega

set_option maxHeartbeats 400000 in
theorem caddr (A : Option Addr) (n c : Nat) (l : List UInt8) (B : Nat) (w : World) (hn : l.length = n) (h : Bs w B A l) (k : Nat) (ki : Int) (hki : ki = (k : Int)) (hk : k + 3 < n) (hn2 : n ≤ 16777216) :
    Calls Try.prog 61 #[.slice A n c, .int .i64 ki] w fun e w' => e = .returned (.int .u32 (ad4 l k)) ∧ ∃ m, w' = w.drewN m := by
  subst hki
  have HN := Go.Lib.hid hn
  have HB := Go.Lib.hid h
  clear hn h
  have b0 := wd_lo l k
  have b1 := wd_hi l k
  have b2 := wd_lo l (k + 2)
  have b3 := wd_hi l (k + 2)
  have hw := u32_or16 (wd l k) (wd l (k + 2)) b0 b1 b2 b3
  have e1 := IntWalk.u32_in (wd l k) (by omega)
  have e2 := IntWalk.u32_in (wd l (k + 2)) (by omega)
  have e3 := IntWalk.u32_in (wd l k * 65536) (by omega)
  have s1 : IntKind.i64.wrap ((k : Int) + 2) = (k : Int) + 2 := IntWalk.i64_in _ (by omega)
  go_enter Try.func61, Try.ntmps61
  go_wp2_with fail
  refine (cword A n c l B _ HN.out HB.out k _ rfl (by omega) hn2).mono ?_
  rintro e w' ⟨rfl, m, rfl⟩
  go_wp2_with fail
  refine (cword A n c l B _ HN.out (HB.out.drewN _) (k + 2) _ (by omega) (by omega) hn2).mono ?_
  rintro e w' ⟨rfl, m2, rfl⟩
  go_wp2
  go_ret
  exact ⟨rfl, _, rfl⟩

set_option maxHeartbeats 400000 in
theorem cupTo (n m : Int) (w : World) :
    Calls Try.prog 56 #[.int .i64 n, .int .i64 m] w fun e w' => e = .returned (.bool (upB n m)) ∧ w = w' := by
  unfold upB
  by_cases h0 : 0 ≤ n
  · by_cases h1 : n ≤ m
    · go_enter Try.func56, Try.ntmps56
      go_wp2
      go_ret
      exact ⟨by simp [h0, h1], rfl⟩
    · go_enter Try.func56, Try.ntmps56
      go_wp2
      go_ret
      exact ⟨by simp [h1], rfl⟩
  · go_enter Try.func56, Try.ntmps56
    go_wp2
    go_ret
    exact ⟨by simp; omega, rfl⟩

/-- a packet as a value: its slices' addresses and capacities. -/
abbrev pkV (p : Pk) (Ao : Option Addr) (co : Nat) (Ab : Option Addr) (cb : Nat) : Value :=
  .agg #[.int .i64 p.tos, .int .i64 p.id, .bool p.df, .bool p.mf, .int .i64 p.off, .int .i64 p.ttl, .int .i64 p.proto, .int .u32 p.src, .int .u32 p.dst, .slice Ao p.opts.length co, .slice Ab p.body.length cb]

set_option maxHeartbeats 400000 in
theorem cheadLen (p : Pk) (Ao : Option Addr) (co : Nat) (Ab : Option Addr) (cb : Nat) (w : World) (ho : p.opts.length ≤ 16777216) :
    Calls Try.prog 57 #[pkV p Ao co Ab cb] w fun e w' => e = .returned (.int .i64 (20 + (p.opts.length : Int))) ∧ Below w.heap.size w w' := by
  go_enter Try.func57, Try.ntmps57
  go_wp2
  go_ret
  exact ⟨rfl, (Below.refl _ _).alloc (Nat.le_refl _) _⟩

theorem mod8 (n : Nat) : (((n : Int) % 8) == 0) = decide (n % 8 = 0) := by rw [Bool.eq_iff_iff]; simp; omega
set_option maxHeartbeats 1000000 in
theorem cpieceFits (p : Pk) (Ao : Option Addr) (co : Nat) (Ab : Option Addr) (cb : Nat) (w : World) (ho : p.opts.length ≤ 16777216) (hb : p.body.length ≤ 16777216) (f0 : 0 ≤ p.off) (f1 : p.off ≤ 65528) :
    Calls Try.prog 54 #[pkV p Ao co Ab cb] w fun e w' => e = .returned (.bool (fitsB p)) ∧ Below w.heap.size w w' := by
  unfold fitsB
  have e1 : IntKind.i64.wrap (20 + (p.opts.length : Int) + p.off) = 20 + (p.opts.length : Int) + p.off := IntWalk.i64_in _ (by omega)
  have e2 : IntKind.i64.wrap (20 + (p.opts.length : Int) + p.off + (p.body.length : Int)) = 20 + (p.opts.length : Int) + p.off + (p.body.length : Int) := IntWalk.i64_in _ (by omega)
  go_enter Try.func54, Try.ntmps54
  go_wp2
  go_region_held3 (fun w' => w'.cell? ⟨w.heap.size, 0, none⟩ = some (.int .i64 p.tos) ∧ w'.cell? ⟨w.heap.size, 1, none⟩ = some (.int .i64 p.id) ∧ w'.cell? ⟨w.heap.size, 2, none⟩ = some (.bool p.df) ∧ w'.cell? ⟨w.heap.size, 3, none⟩ = some (.bool p.mf) ∧ w'.cell? ⟨w.heap.size, 4, none⟩ = some (.int .i64 p.off) ∧ w'.cell? ⟨w.heap.size, 5, none⟩ = some (.int .i64 p.ttl) ∧ w'.cell? ⟨w.heap.size, 6, none⟩ = some (.int .i64 p.proto) ∧ w'.cell? ⟨w.heap.size, 7, none⟩ = some (.int .u32 p.src) ∧ w'.cell? ⟨w.heap.size, 8, none⟩ = some (.int .u32 p.dst) ∧ w'.cell? ⟨w.heap.size, 9, none⟩ = some (.slice Ao p.opts.length co) ∧ w'.cell? ⟨w.heap.size, 10, none⟩ = some (.slice Ab p.body.length cb) ∧ Below w.heap.size w w' ∧ w.heap.size < w'.heap.size)
    (first
      | (refine ⟨?_, ?_, ?_, ?_, ?_, ?_, ?_, ?_, ?_, ?_, ?_, below_drew ((Below.refl _ _).alloc (Nat.le_refl _) _), ?_⟩ <;> simp [go_sem])
      | (obtain ⟨h0, h1, h2, h3, h4, h5, h6, h7, h8, h9, h10, hbel, hlt⟩ := ‹_ ∧ _›; exact ⟨cells_keep hcall hlt h0, cells_keep hcall hlt h1, cells_keep hcall hlt h2, cells_keep hcall hlt h3, cells_keep hcall hlt h4, cells_keep hcall hlt h5, cells_keep hcall hlt h6, cells_keep hcall hlt h7, cells_keep hcall hlt h8, cells_keep hcall hlt h9, cells_keep hcall hlt h10, hbel.trans (hcall.mono hbel.size), Nat.lt_of_lt_of_le hlt hcall.size⟩))
    (first | (go_at_call 57; refine (cheadLen p Ao co Ab cb _ ho).mono ?_; rintro e w' ⟨rfl, hcall⟩))
  all_goals
    obtain ⟨h0, h1, h2, h3, h4, h5, h6, h7, h8, h9, h10, hbel, hlt⟩ := ‹_ ∧ _›
    clear hcall
    go_wp2
    all_goals (go_ret; refine ⟨ret_bool ?_, hbel⟩; clear h0 h1 h2 h3 h4 h5 h6 h7 h8 h9 h10 hbel hlt e1 e2)
    all_goals first | (simp [*]; done) | (simp [*, mod8]; done) | (simp; intro _; exfalso; omega)

theorem mod4 (n : Nat) : (((n : Int) % 4) == 0) = decide (n % 4 = 0) := by rw [Bool.eq_iff_iff]; simp; omega

set_option maxHeartbeats 2000000 in
theorem cmay (p : Pk) (Ao : Option Addr) (co : Nat) (Ab : Option Addr) (cb : Nat) (w : World) (ho : p.opts.length ≤ 16777216) (hb : p.body.length ≤ 16777216) :
    Calls Try.prog 47 #[pkV p Ao co Ab cb] w fun e w' => e = .returned (.bool (mayB p)) ∧ Below w.heap.size w w' := by
  unfold mayB
  have hm4 := mod4 p.opts.length
  by_cases h5 : upB p.off 65528 = true
  · have h5' := h5
    unfold upB at h5'
    simp only [Bool.and_eq_true, decide_eq_true_eq] at h5'
    obtain ⟨f0, f1⟩ := h5'
    go_enter Try.func47, Try.ntmps47
    go_wp2_with (first
      | (go_at_call 56; refine (cupTo _ _ _).mono ?_; rintro e w' ⟨rfl, rfl⟩)
      | (go_at_call 54; refine (cpieceFits p Ao co Ab cb _ ho hb f0 f1).mono ?_; rintro e w' ⟨rfl, hcall⟩))
    all_goals (go_ret; refine ⟨ret_bool ?_, ?_⟩)
    all_goals first | exact ((Below.refl _ _).alloc (Nat.le_refl _) _).trans (hcall.mono (by simp)) | exact (Below.refl _ _).alloc (Nat.le_refl _) _ | skip
    all_goals first | (simp [*]; done) | (have hy : p.opts.length ≤ 40 := (by omega); have hz : p.opts.length % 4 = 0 := (by omega); simp [*]; done) | (have hx : ¬ p.opts.length ≤ 40 := (by omega); simp [hx]; done)
  · go_enter Try.func47, Try.ntmps47
    go_wp2_with (first
      | (go_at_call 56; refine (cupTo _ _ _).mono ?_; rintro e w' ⟨rfl, rfl⟩))
    all_goals (go_ret; refine ⟨ret_bool ?_, ?_⟩)
    all_goals first | exact (Below.refl _ _).alloc (Nat.le_refl _) _ | skip
    all_goals (simp [*]; done)
end Go.Proofs.Ytndhiopfkgdhcaa
