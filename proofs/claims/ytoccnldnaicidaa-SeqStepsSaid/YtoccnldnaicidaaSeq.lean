/- Contracts of package seq, of the document's own answers for it, and of the fixed answers that each statement asks first: what each of them returns, for all 32-bit numbers. -/
import Derived.Test.YtoccnldnaicidaaRows
import Derived.WalkKit
import Derived.ProofKit
import Derived.OpenShut
import Derived.Lib.Hide
import Derived.Test.YtoccnldnaicidaaPlain
namespace Go.Proofs.Ytoccnldnaicidaa
open Go.ChangeShapes Go.WideShapes Go.ChangeAt Go.RowKit

theorem ret_int {k : IntKind} {a b : Int} (h : a = b) : Ending.returned (.int k a) = .returned (.int k b) := by rw [h]
theorem ret_bool {a b : Bool} (h : a = b) : Ending.returned (.bool a) = .returned (.bool b) := by rw [h]

set_option maxHeartbeats 400000 in
theorem sdist (a b : Int) (ha : 0 ≤ a ∧ a ≤ 4294967295) (hb : 0 ≤ b ∧ b ≤ 4294967295) (w : World) :
    Calls Try.prog 10 #[.int .u32 a, .int .u32 b] w fun e w' => e = .returned (.int .i64 (dist a b)) ∧ w = w' := by
  obtain ⟨a0, a1⟩ := ha
  obtain ⟨b0, b1⟩ := hb
  go_enter Try.func10, Try.ntmps10
  go_wp2
  go_ret
  exact ⟨ret_int (dist_walk a b), rfl⟩

set_option maxHeartbeats 400000 in
theorem sstep (a n : Int) (ha : 0 ≤ a ∧ a ≤ 4294967295)  (w : World) :
    Calls Try.prog 15 #[.int .u32 a, .int .i64 n] w fun e w' => e = .returned (.int .u32 (stp a n)) ∧ w = w' := by
  obtain ⟨a0, a1⟩ := ha
  go_enter Try.func15, Try.ntmps15
  go_wp2
  go_ret
  exact ⟨ret_int (stp_walk a n), rfl⟩

set_option maxHeartbeats 400000 in
theorem sin (a b c : Int) (ha : 0 ≤ a ∧ a ≤ 4294967295) (hb : 0 ≤ b ∧ b ≤ 4294967295) (hc : 0 ≤ c ∧ c ≤ 4294967295) (w : World) :
    Calls Try.prog 13 #[.int .u32 a, .int .u32 b, .int .u32 c] w fun e w' => e = .returned (.bool (inB a b c)) ∧ w = w' := by
  obtain ⟨a0, a1⟩ := ha
  obtain ⟨b0, b1⟩ := hb
  obtain ⟨c0, c1⟩ := hc
  go_enter Try.func13, Try.ntmps13
  go_wp2
  go_ret
  exact ⟨rfl, rfl⟩

set_option maxHeartbeats 400000 in
theorem sahead (a b : Int) (ha : 0 ≤ a ∧ a ≤ 4294967295) (hb : 0 ≤ b ∧ b ≤ 4294967295) (w : World) :
    Calls Try.prog 11 #[.int .u32 a, .int .u32 b] w fun e w' => e = .returned (.bool (ahB a b)) ∧ w = w' := by
  have c := sdist b a hb ha
  go_enter Try.func11, Try.ntmps11
  go_wp2_with (go_at_call 10; refine (sdist b a hb ha _).mono ?_; rintro e w' ⟨rfl, rfl⟩)
  go_ret
  exact ⟨rfl, rfl⟩

set_option maxHeartbeats 400000 in
theorem slater (a b : Int) (ha : 0 ≤ a ∧ a ≤ 4294967295) (hb : 0 ≤ b ∧ b ≤ 4294967295) (w : World) :
    Calls Try.prog 12 #[.int .u32 a, .int .u32 b] w fun e w' => e = .returned (.int .u32 (ltr a b)) ∧ w = w' := by
  by_cases h : 0 < dist a b
  · have hb1 : ahB b a = true := by simpa [ahB] using h
    go_enter Try.func12, Try.ntmps12
    go_wp2_with (go_at_call 11; refine (sahead b a hb ha _).mono ?_; rintro e w' ⟨rfl, rfl⟩)
    go_ret
    exact ⟨ret_int (ltr_yes a b h).symm, rfl⟩
  · have hb1 : ahB b a = false := by simpa [ahB] using h
    go_enter Try.func12, Try.ntmps12
    go_wp2_with (go_at_call 11; refine (sahead b a hb ha _).mono ?_; rintro e w' ⟨rfl, rfl⟩)
    go_ret
    exact ⟨ret_int (ltr_no a b (by omega)).symm, rfl⟩

/-! the document's own answers -/
set_option maxHeartbeats 400000 in
theorem rdist (a b : Int) (ha : 0 ≤ a ∧ a ≤ 4294967295) (hb : 0 ≤ b ∧ b ≤ 4294967295) (w : World) :
    Calls Try.prog 9 #[.int .u32 a, .int .u32 b] w fun e w' => e = .returned (.int .i64 (dist a b)) ∧ w = w' := by
  obtain ⟨a0, a1⟩ := ha
  obtain ⟨b0, b1⟩ := hb
  by_cases h : b - a < 0
  · by_cases h2 : 2147483648 ≤ b - a + 4294967296
    · go_enter Try.func9, Try.ntmps9
      go_wp2
      go_ret
      exact ⟨ret_int (by unfold dist; omega), rfl⟩
    · go_enter Try.func9, Try.ntmps9
      go_wp2
      go_ret
      exact ⟨ret_int (by unfold dist; omega), rfl⟩
  · by_cases h2 : 2147483648 ≤ b - a
    · go_enter Try.func9, Try.ntmps9
      go_wp2
      go_ret
      exact ⟨ret_int (by unfold dist; omega), rfl⟩
    · go_enter Try.func9, Try.ntmps9
      go_wp2
      go_ret
      exact ⟨ret_int (by unfold dist; omega), rfl⟩

set_option maxHeartbeats 400000 in
theorem rin (x f t : Int) (hx : 0 ≤ x ∧ x ≤ 4294967295) (hf : 0 ≤ f ∧ f ≤ 4294967295) (ht : 0 ≤ t ∧ t ≤ 4294967295) (w : World) :
    Calls Try.prog 14 #[.int .u32 x, .int .u32 f, .int .u32 t] w fun e w' => e = .returned (.bool (inB x f t)) ∧ w = w' := by
  by_cases h : f ≤ t
  · have H := Go.Lib.hid (ref_in_up x f t hx hf ht h)
    by_cases h1 : f ≤ x
    · go_enter Try.func14, Try.ntmps14
      go_wp2
      go_ret
      exact ⟨ret_bool (by rw [H.out, show decide (f ≤ x) = true from decide_eq_true h1]; simp), rfl⟩
    · go_enter Try.func14, Try.ntmps14
      go_wp2
      go_ret
      exact ⟨ret_bool (by rw [H.out, show decide (f ≤ x) = false from decide_eq_false (by omega)]; simp), rfl⟩
  · have H := Go.Lib.hid (ref_in_down x f t hx hf ht h)
    by_cases h1 : f ≤ x
    · go_enter Try.func14, Try.ntmps14
      go_wp2
      go_ret
      exact ⟨ret_bool (by rw [H.out, show decide (f ≤ x) = true from decide_eq_true h1]; simp), rfl⟩
    · go_enter Try.func14, Try.ntmps14
      go_wp2
      go_ret
      exact ⟨ret_bool (by rw [H.out, show decide (f ≤ x) = false from decide_eq_false (by omega)]; simp), rfl⟩

set_option maxHeartbeats 400000 in
theorem rwrap (n : Int) (w : World) :
    Calls Try.prog 17 #[.int .i64 n] w fun e w' => e = .returned (.int .u32 (n % 4294967296)) ∧ w = w' := by
  by_cases h : n.tmod 4294967296 < 0
  · go_enter Try.func17, Try.ntmps17
    go_wp2
    go_ret
    exact ⟨ret_int (wrap_neg n h), rfl⟩
  · go_enter Try.func17, Try.ntmps17
    go_wp2
    go_ret
    exact ⟨ret_int (wrap_pos n h), rfl⟩

set_option maxHeartbeats 400000 in
theorem rstep (a n : Int) (ha : 0 ≤ a ∧ a ≤ 4294967295)  (w : World) :
    Calls Try.prog 16 #[.int .u32 a, .int .i64 n] w fun e w' => e = .returned (.int .u32 (stp a n)) ∧ w = w' := by
  obtain ⟨a0, a1⟩ := ha
  go_enter Try.func16, Try.ntmps16
  go_wp2_with (go_at_call 17; refine (rwrap _ _).mono ?_; rintro e w' ⟨rfl, rfl⟩)
  go_ret
  exact ⟨ret_int (rstep_is a n ⟨a0, a1⟩), rfl⟩

set_option maxHeartbeats 400000 in
theorem awake (w : World) :
    Calls Try.prog 8 #[] w fun e w' => e = .returned (.bool true) ∧ w = w' := by
  go_enter Try.func8, Try.ntmps8
  go_wp2
  go_ret
  exact ⟨rfl, rfl⟩

end Go.Proofs.Ytoccnldnaicidaa
