/- Contracts of the document's own answers for package tcp: numbers as bytes, the sum. -/
import Derived.Test.YtghgemmbbedopaaTcpV
import Derived.Test.YtghgemmbbedopaaTcpR1
import Derived.Test.YtghgemmbbedopaaWords
namespace Go.Proofs.Ytghgemmbbedopaa
open Go.ChangeShapes Go.WideShapes Go.ChangeAt Go.RowKit
set_option linter.unusedVariables false

set_option maxRecDepth 100000 in
set_option maxHeartbeats 1000000 in
theorem rtwo (n : Int) (w : World) (h0 : 0 ≤ n) (h1 : n ≤ 65535) :
    Calls Try.prog 47 #[.int .i64 n] w fun e w' => ∃ g, e = .returned (.slice (some ⟨g, 0, none⟩) 2 2) ∧ Own w' w.heap.size g 2 2 (two n) ∧ Below w.heap.size w w' := by
  have u1 := IntWalk.u8_in (n / 256) (by omega)
  have u2 := IntWalk.u8_in (n % 256) (by omega)
  have o := own_lit w w.heap.size [n / 256, n % 256] (by intro x hx; simp at hx; omega) (Nat.le_refl _) (by simp)
  go_enter Try.func47, Try.ntmps47
  go_wp2
  go_ret
  exact ⟨_, rfl, o, (Below.refl _ _).alloc (Nat.le_refl _) _⟩
set_option maxRecDepth 100000 in
set_option maxHeartbeats 1000000 in
theorem rfour (n : Int) (w : World) (h0 : 0 ≤ n) (h1 : n ≤ 4294967295) :
    Calls Try.prog 48 #[.int .u32 n] w fun e w' => ∃ g, e = .returned (.slice (some ⟨g, 0, none⟩) 4 4) ∧ Own w' w.heap.size g 4 4 (four n) ∧ Below w.heap.size w w' := by
  have u1 := IntWalk.u8_in (n / 16777216) (by omega)
  have u2 := IntWalk.u8_in (n / 65536 % 256) (by omega)
  have u3 := IntWalk.u8_in (n / 256 % 256) (by omega)
  have u4 := IntWalk.u8_in (n % 256) (by omega)
  have o := own_lit w w.heap.size [n / 16777216, n / 65536 % 256, n / 256 % 256, n % 256] (by intro x hx; simp at hx; omega) (Nat.le_refl _) (by simp)
  go_enter Try.func48, Try.ntmps48
  go_wp2
  go_ret
  exact ⟨_, rfl, o, (Below.refl _ _).alloc (Nat.le_refl _) _⟩
set_option maxRecDepth 100000 in
set_option maxHeartbeats 1000000 in
theorem rsumT (src dst : Int) (A : Option Addr) (n c : Nat) (l : List UInt8) (B : Nat) (w : World) (hs : 0 ≤ src ∧ src ≤ 4294967295) (hd : 0 ≤ dst ∧ dst ≤ 4294967295) (hn : l.length = n) (h : Bs w B A l) (hB : B ≤ w.heap.size) (hl : n ≤ 16777216) (hlc : n ≤ c) :
    Calls Try.prog 28 #[.int .u32 src, .int .u32 dst, .slice A n c] w fun e w' => e = .returned (.int .u16 (sumT 6 src dst l)) ∧ Below w.heap.size w w' := by
  have HS : Hid (fo (pseudo src dst 6 (n : Int) + fo (tot l)) = sumT 6 src dst l) := by show _ = _; unfold sumT; rw [hn]
  have HN := Go.Lib.hid hn
  have HB := Go.Lib.hid h
  clear hn h
  go_enter Try.func28, Try.ntmps28
  go_wp2_with fail
  refine (rpseudo src dst 6 (n : Int) hs hd _).mono ?_
  rintro e w1 ⟨rfl, hb1⟩
  dsimp only
  go_wp2_with fail
  refine (rsum_n A n c l B _ HN.out (HB.out.below (hb1.mono hB)) (Nat.le_trans hB hb1.size) hl hlc).mono ?_
  rintro e w2 ⟨rfl, hb2⟩
  dsimp only
  have p0 := fo_lo (src / 65536 + src % 65536 + (dst / 65536 + dst % 65536) + 6 % 65536 + (n : Int) % 65536)
  have p1 := fo_hi (src / 65536 + src % 65536 + (dst / 65536 + dst % 65536) + 6 % 65536 + (n : Int) % 65536)
  have t0 := fo_lo (tot l)
  have t1 := fo_hi (tot l)
  go_wp2_with fail
  refine (rjoin _ _ ⟨p0, p1⟩ ⟨t0, t1⟩ _).mono ?_
  rintro e w3 ⟨rfl, rfl⟩
  dsimp only
  go_wp2
  go_ret
  exact ⟨ret_int HS.out, hb1.trans (hb2.mono hb1.size)⟩
end Go.Proofs.Ytghgemmbbedopaa
