/- The contract of bytes.Clone. -/
import Derived.Test.YtndhiopfkgdhcaaRows
import Derived.WalkKit
import Derived.ProofKit
import Derived.OpenShut
import Derived.Below
import Derived.Deep.QuietTactic
import Derived.Deep.RegionHeld3
import Derived.BigQuiet
import Derived.OwnWalk
import Derived.Test.YtndhiopfkgdhcaaMem
import Derived.Test.YtndhiopfkgdhcaaOwn
import Derived.Lib.SliceRun
namespace Go.Proofs.Ytndhiopfkgdhcaa
open Go.ChangeShapes Go.WideShapes Go.ChangeAt Go.RowKit
set_option linter.unusedVariables false

/-- a slice that some call has handed back: it reads as these bytes. -/
structure Gives (w0 w : World) (A : Option Addr) (c : Nat) (l : List UInt8) : Prop where
  len : l.length ≤ c
  cap : c ≤ 9223372036854775807
  nil : A = none → c = 0
  bs : Bs w w.heap.size A l
  fresh : ∀ ad, A = some ad → w0.heap.size ≤ ad.block
  below : Below w0.heap.size w0 w
def Cloned (w0 : World) (n : Nat) (l : List UInt8) (e : Ending) (w : World) : Prop := ∃ A c, e = .returned (.slice A n c) ∧ Gives w0 w A c l

theorem own_gives {w0 w : World} {n : Nat} {v : Value} {l : List UInt8} (h : w.ownsRow w0.heap.size 5 1 v n (l.map bv)) (hb : Below w0.heap.size w0 w) : ∃ A c, v = .slice A n c ∧ Gives w0 w A c l := by
  have hn : l.length = n := by have := h.1; simpa using this
  obtain ⟨A, c, rfl, h1, h2, h3, h4⟩ := rd_of_own h
  unfold maxLen at h2
  refine ⟨A, c, rfl, by omega, by omega, h3, h4.bs, fun ad e => ?_, hb⟩
  subst e
  exact (h.lt ad.block rfl).1

set_option maxHeartbeats 400000 in
theorem cclone (A : Option Addr) (n c : Nat) (l : List UInt8) (B : Nat) (w : World) (hn : l.length = n) (h : Bs w B A l) (hB : B ≤ w.heap.size) (hn2 : n ≤ 16777216) (hnil : A = none → c = 0) (hnc : n ≤ c) :
    Calls Try.prog 39 #[.slice A n c] w (Cloned w n l) := by
  obtain ⟨i0, hi, hz0, hz1, hz2⟩ := info_parts info_byte
  have q := fun (W : World) (a : Option Addr) (n c n' c' : Nat) => Lib.run_eql_slice_nil (P := Try.prog) W _ _ a n c n' c' Try.underlying23
  rcases A with _ | ad
  · have hc := hnil rfl
    subst hc
    obtain rfl : n = 0 := by omega
    have hl : l = [] := List.eq_nil_of_length_eq_zero hn
    subst hl
    clear hn h hnil
    go_enter Try.func39, Try.ntmps39
    go_wp2
    go_ret
    exact ⟨none, 0, rfl, by simp, by omega, fun _ => rfl, .inl rfl, fun _ h => (by cases h), Below.refl _ _⟩
  · have HN := Go.Lib.hid hn
    have HB := Go.Lib.hid h
    have HX := Go.Lib.hid hnil
    clear hn h hnil
    go_enter Try.func39, Try.ntmps39
    go_wp2_with (at_builtin; refine wpList_copy_rd rfl _ _ 23 rfl 5 i0 (.int .u8 0) 1 Try.underlying23 hi hz0 hz1 hz2 rfl rfl B (some ad) n c (l.map bv) rfl (by simpa using HN.out) HX.out HB.out.rd hB (bv_one _) (by unfold maxLen; omega) (by omega) ?_; intro v2 w2 hown2 hb2)
    obtain ⟨A2, c2, rfl, hg⟩ := own_gives hown2 hb2
    go_ret
    exact ⟨A2, c2, rfl, hg⟩
end Go.Proofs.Ytndhiopfkgdhcaa
