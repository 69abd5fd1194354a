/- Contracts of package udp: the sum, the check sum, how long, may it be put, its head. -/
import Derived.Deep.DeepCutAuto
import Derived.Deep.CutBlock
import Derived.Test.YthikllbfkagdnaaUdpA1
import Derived.Test.YthikllbfkagdnaaCsumC
import Derived.Test.YthikllbfkagdnaaUdpR
namespace Go.Proofs.Ythikllbfkagdnaa
open Go.ChangeShapes Go.WideShapes Go.ChangeAt Go.RowKit
set_option linter.unusedVariables false
set_option linter.unusedSimpArgs false

set_option maxRecDepth 100000 in
set_option maxHeartbeats 1000000 in
theorem usum (src dst : Int) (A : Option Addr) (n c : Nat) (l : List UInt8) (B : Nat) (w : World) (s : Int) (h6 : sumT 17 src dst l = s) (hs : 0 ≤ src ∧ src ≤ 4294967295) (hd : 0 ≤ dst ∧ dst ≤ 4294967295) (hn : l.length = n) (h : Bs w B A l) (hl : n ≤ 16777216) (hlc : n ≤ c) (hc : c ≤ 9223372036854775807) :
    Calls Try.prog 28 #[.int .u32 src, .int .u32 dst, .slice A n c] w fun e w' => e = .returned (.int .u16 s) ∧ ∃ m, w' = w.drewN m := by
  subst hn
  have HS : Hid (fo (pseudo src dst 17 (l.length : Int) + fo (tot l)) = s) := by show _ = _; rw [← h6]; unfold sumT; rfl
  have HB := Go.Lib.hid h
  clear h h6
  have t0 := fo_lo (tot l)
  have t1 := fo_hi (tot l)
  have p0 := pseudo_lo src dst 17 (l.length : Int)
  have p1 : pseudo src dst 17 (l.length : Int) ≤ 65535 := fo_hi _
  go_enter Try.func28, Try.ntmps28
  go_wp2_with (first
    | (go_at_call 35; refine (cpseudo src dst 17 (l.length : Int) hs hd _).mono ?_; rintro e w1 ⟨rfl, rfl⟩; dsimp only)
    | (go_at_call 36; refine (csum A c l B _ HB.out hl hlc (by unfold maxLen; omega)).mono ?_; rintro e w2 ⟨rfl, m2, rfl⟩; dsimp only)
    | (go_at_call 34; refine (cjoin _ _ ⟨p0, p1⟩ ⟨t0, t1⟩ _).mono ?_; rintro e w3 ⟨rfl, rfl⟩; dsimp only))
  go_ret
  exact ⟨ret_int HS.out, _, rfl⟩

/-- a check sum of a sum: never 0. -/
def ckS (s : Int) : Int := if 65535 - s = 0 then 65535 else 65535 - s
set_option maxRecDepth 100000 in
set_option maxHeartbeats 1000000 in
theorem ucheck (src dst : Int) (A : Option Addr) (n c : Nat) (l : List UInt8) (B : Nat) (w : World) (k : Int) (hk : ckS (sumT 17 src dst l) = k) (hs : 0 ≤ src ∧ src ≤ 4294967295) (hd : 0 ≤ dst ∧ dst ≤ 4294967295) (hn : l.length = n) (h : Bs w B A l) (hl : n ≤ 16777216) (hlc : n ≤ c) (hc : c ≤ 9223372036854775807) :
    Calls Try.prog 22 #[.int .u32 src, .int .u32 dst, .slice A n c] w fun e w' => e = .returned (.int .u16 k) ∧ ∃ m, w' = w.drewN m := by
  obtain ⟨s, hsum⟩ : ∃ s : Int, sumT 17 src dst l = s := ⟨_, rfl⟩
  have y0 := sumT_lo 17 src dst l
  have y1 := sumT_hi 17 src dst l
  rw [hsum] at y0 y1 hk
  have HSM := Go.Lib.hid hsum
  have HK := Go.Lib.hid hk
  have HN := Go.Lib.hid hn
  have HB := Go.Lib.hid h
  clear hsum hk hn h
  have z1 := u16_not s y0 y1
  have z2 : IntKind.u16.signed = false := rfl
  have z3 : IntKind.u16.max = 65535 := rfl
  by_cases hz : 65535 - s = 0
  · have t0 : (65535 - s == 0) = true := by simpa using hz
    have HE : Hid (k = 65535) := Go.Lib.hid (by rw [← HK.out]; unfold ckS; rw [if_pos hz])
    clear hz
    go_enter Try.func22, Try.ntmps22
    go_wp2_with fail
    refine (usum src dst A n c l B _ s HSM.out hs hd HN.out HB.out hl hlc hc).mono ?_
    rintro e w1 ⟨rfl, m, rfl⟩
    dsimp only
    go_wp2
    go_ret
    exact ⟨ret_int HE.out.symm, _, rfl⟩
  · have t0 : (65535 - s == 0) = false := by simpa using hz
    have HE : Hid (k = 65535 - s) := Go.Lib.hid (by rw [← HK.out]; unfold ckS; rw [if_neg hz])
    clear hz
    go_enter Try.func22, Try.ntmps22
    go_wp2_with fail
    refine (usum src dst A n c l B _ s HSM.out hs hd HN.out HB.out hl hlc hc).mono ?_
    rintro e w1 ⟨rfl, m, rfl⟩
    dsimp only
    go_wp2
    go_ret
    exact ⟨ret_int HE.out.symm, _, rfl⟩

set_option maxRecDepth 100000 in
set_option maxHeartbeats 1000000 in
theorem usizeOf (u : Ud) (Ab : Option Addr) (cb : Nat) (w : World) (n : Nat) (hn : 8 + u.body.length = n) (hl : u.body.length ≤ 16777216) :
    Calls Try.prog 31 #[udV u Ab cb] w fun e w' => e = .returned (.int .i64 n) ∧ Below w.heap.size w w' := by
  have HN : Hid ((8 : Int) + (u.body.length : Int) = (n : Int)) := Go.Lib.hid (by omega)
  have e1 := IntWalk.i64_in ((8 : Int) + (u.body.length : Int)) (by omega)
  clear hn
  go_enter Try.func31, Try.ntmps31
  go_wp2
  go_ret
  exact ⟨ret_int HN.out, (Below.refl _ _).alloc (Nat.le_refl _) _⟩

end Go.Proofs.Ythikllbfkagdnaa
