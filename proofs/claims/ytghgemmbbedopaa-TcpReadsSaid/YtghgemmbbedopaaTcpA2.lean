/- Contracts of package tcp: the sum; how long options are; are options right? -/
import Derived.Deep.DeepCutAuto
import Derived.Deep.CutBlock
import Derived.Test.YtghgemmbbedopaaTcpA1
import Derived.Test.YtghgemmbbedopaaCsumC
import Derived.Test.YtghgemmbbedopaaTcpV
namespace Go.Proofs.Ytghgemmbbedopaa
open Go.ChangeShapes Go.WideShapes Go.ChangeAt Go.RowKit
set_option linter.unusedVariables false

set_option maxRecDepth 100000 in
set_option maxHeartbeats 1000000 in
theorem tsum (src dst : Int) (A : Option Addr) (n c : Nat) (l : List UInt8) (B : Nat) (w : World) (s : Int) (h6 : sumT 6 src dst l = s) (hs : 0 ≤ src ∧ src ≤ 4294967295) (hd : 0 ≤ dst ∧ dst ≤ 4294967295) (hn : l.length = n) (h : Bs w B A l) (hl : n ≤ 16777216) (hlc : n ≤ c) (hc : c ≤ 9223372036854775807) :
    Calls Try.prog 25 #[.int .u32 src, .int .u32 dst, .slice A n c] w fun e w' => e = .returned (.int .u16 s) ∧ ∃ m, w' = w.drewN m := by
  subst hn
  have HS : Hid (fo (pseudo src dst 6 (l.length : Int) + fo (tot l)) = s) := by show _ = _; rw [← h6]; unfold sumT; rfl
  have HB := Go.Lib.hid h
  clear h h6
  have t0 := fo_lo (tot l)
  have t1 := fo_hi (tot l)
  have p0 := pseudo_lo src dst 6 (l.length : Int)
  have p1 : pseudo src dst 6 (l.length : Int) ≤ 65535 := fo_hi _
  go_enter Try.func25, Try.ntmps25
  go_wp2_with (first
    | (go_at_call 45; refine (cpseudo src dst 6 (l.length : Int) hs hd _).mono ?_; rintro e w1 ⟨rfl, rfl⟩; dsimp only)
    | (go_at_call 46; refine (csum A c l B _ HB.out hl hlc (by unfold maxLen; omega)).mono ?_; rintro e w2 ⟨rfl, m2, rfl⟩; dsimp only)
    | (go_at_call 44; refine (cjoin _ _ ⟨p0, p1⟩ ⟨t0, t1⟩ _).mono ?_; rintro e w3 ⟨rfl, rfl⟩; dsimp only))
  go_ret
  exact ⟨ret_int HS.out, _, rfl⟩

theorem olen_le (os : List Op) (m : Nat) (h : ∀ o ∈ os, o.data.length ≤ m) : olen os ≤ os.length * (2 + m) := by
  induction os with
  | nil => simp [olen]
  | cons o r ih =>
    have h1 := h o (by simp)
    have h2 := ih (fun o ho => h o (by simp [ho]))
    simp only [olen, List.length_cons, Nat.add_mul]
    omega
/-- options of no great length. -/
structure Osm (os : List Op) : Prop where
  len : os.length ≤ 65536
  data : ∀ o ∈ os, o.data.length ≤ 65536
theorem Osm.take_lt {os : List Op} (h : Osm os) (k : Nat) : olen (os.take k) ≤ 4295098368 := by
  have h1 := olen_take_le os k
  have h2 := olen_le os 65536 h.data
  have h3 := h.len
  have : os.length * (2 + 65536) ≤ 65536 * (2 + 65536) := Nat.mul_le_mul_right _ h3
  omega

set_option maxRecDepth 100000 in
set_option maxHeartbeats 4000000 in
theorem toptsLen (A : Option Addr) (n c : Nat) (os : List Op) (B : Nat) (w : World) (s : Nat) (hs : olen os = s) (hn : os.length = n) (h : Os w B A os) (hB : B ≤ w.heap.size) (hm : Osm os) :
    Calls Try.prog 39 #[.slice A n c] w fun e w' => e = .returned (.int .i64 s) ∧ Below w.heap.size w w' := by
  subst hn
  have HS := Go.Lib.hid hs
  have hl := hm.len
  have HM := Go.Lib.hid hm
  clear hs hm
  go_enter Try.func39, Try.ntmps39
  go_wp2
  go_loopw [3, 8] (fun s i wx => ∃ k : Nat, k ≤ os.length ∧ i = .int .i64 k ∧ s = .int .i64 (olen (os.take k) : Nat) ∧ Below w.heap.size w wx) (fun _ i _ => os.length - (intOf i).toNat)
  case atStart => exact ⟨0, by omega, rfl, by simp [olen], Below.refl _ _⟩
  case round =>
    obtain ⟨k, hk, rfl, rfl, x1⟩ := hrel
    by_cases hlt : k < os.length
    · obtain ⟨ad, Ad, cd, rfl, hb, hc0, hc1, hbs, hdl, hcm, hnil⟩ := (h.below (x1.mono hB)).at_ hlt
      have i1 : (0 : Int) ≤ (k : Int) := by omega
      have i2 : (k : Int) < (os.length : Int) := by omega
      have j0 := HM.out.data _ (List.getElem_mem hlt)
      have j1 := HM.out.take_lt k
      have HT := Go.Lib.hid (olen_take_succ os k hlt)
      generalize os[k].kind = kd at *
      generalize os[k].data.length = d at *
      have j2 := IntWalk.i64_in ((2 : Int) + (d : Int)) (by omega)
      have j3 := IntWalk.i64_in (((olen (os.take k) : Nat) : Int) + (2 + (d : Int))) (by omega)
      clear hbs hdl hcm hnil
      go_wp2
      go_roundw
      case rel =>
        refine ⟨k + 1, by omega, by go_num, ?_, x1.alloc x1.size _⟩
        rw [HT.out]; go_num
      case measure => simp [intOf]; omega
    · obtain rfl : k = os.length := by omega
      rw [List.take_length, HS.out]
      go_wp2
      go_ret
      exact ⟨rfl, x1⟩

/-- an option as a value. -/
abbrev opV (kd : Int) (Ad : Option Addr) (d cd : Nat) : Value := .agg #[.int .i64 kd, .slice Ad d cd]

theorem tokX {kd : Int} {d : Nat} (n2 : (kd == 2) = false) (n3 : (kd == 3) = false) (n4 : (kd == 4) = false) (n5 : (kd == 5) = false) (n8 : (kd == 8) = false) : okLen kd d = true := by
  simp at n2 n3 n4 n5 n8; simp [okLen, n2, n3, n4, n5, n8]
set_option maxRecDepth 100000 in
set_option maxHeartbeats 4000000 in
theorem tfits (kd : Int) (Ad : Option Addr) (d cd : Nat) (w : World) (b : Bool) (hb : okLen kd d = b) (hd : d ≤ 65536) :
    Calls Try.prog 51 #[opV kd Ad d cd] w fun e w' => e = .returned (.bool b) ∧ Below w.heap.size w w' := by
  have HB := Go.Lib.hid hb
  clear hb
  have hkk : kd = 2 ∨ kd = 3 ∨ kd = 4 ∨ kd = 5 ∨ kd = 8 ∨ ((kd == 2) = false ∧ (kd == 3) = false ∧ (kd == 4) = false ∧ (kd == 5) = false ∧ (kd == 8) = false) := by
    simp only [beq_eq_false_iff_ne]; omega
  rcases hkk with rfl | rfl | rfl | rfl | rfl | ⟨n2, n3, n4, n5, n8⟩
  all_goals
    go_enter Try.func51, Try.ntmps51
    go_wp2
  all_goals
    go_ret
    refine ⟨ret_bool ?_, (Below.refl _ _).alloc (Nat.le_refl _) _⟩
    rw [← HB.out]
  all_goals first
    | (rw [Bool.eq_iff_iff]; simp [okLen]; omega)
    | (rw [tokX n2 n3 n4 n5 n8]; done)
    | (rw [Bool.eq_iff_iff]; simp [okLen]; done)

theorem known_iff (k : Int) : five k = (k == 2 || k == 3 || k == 4 || k == 5 || k == 8) := by
  rw [Bool.eq_iff_iff]; simp [five]; omega
set_option maxRecDepth 100000 in
set_option maxHeartbeats 4000000 in
theorem tknown (kd : Int) (w : World) (b : Bool) (hb : five kd = b) :
    Calls Try.prog 52 #[.int .i64 kd] w fun e w' => e = .returned (.bool b) ∧ w = w' := by
  have HB := Go.Lib.hid hb
  clear hb
  have hkk : kd = 2 ∨ kd = 3 ∨ kd = 4 ∨ kd = 5 ∨ kd = 8 ∨ ((kd == 2) = false ∧ (kd == 3) = false ∧ (kd == 4) = false ∧ (kd == 5) = false ∧ (kd == 8) = false) := by
    simp only [beq_eq_false_iff_ne]; omega
  rcases hkk with rfl | rfl | rfl | rfl | rfl | ⟨n2, n3, n4, n5, n8⟩
  all_goals
    go_enter Try.func52, Try.ntmps52
    go_wp2
  all_goals
    go_ret
    refine ⟨ret_bool ?_, rfl⟩
    rw [← HB.out]
  all_goals first | rfl | (rw [known_iff]; simp [*]; done)
end Go.Proofs.Ytghgemmbbedopaa
