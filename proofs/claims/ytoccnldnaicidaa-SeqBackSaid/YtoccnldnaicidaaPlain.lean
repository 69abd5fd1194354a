/- The plain mathematics of numbers of 32 bits that go round: distance, order, place, step. No condition beyond bounds. -/
import Derived.Lib.Hide
import Derived.WalkKit
import Derived.IntWalk
namespace Go.Proofs.Ytoccnldnaicidaa
open Go.RowKit

/-- the distance from a to b: the one of b - a modulo 2^32 that lies from -2^31 to 2^31 - 1. -/
def dist (a b : Int) : Int := (b - a + 2147483648) % 4294967296 - 2147483648
/-- n further on than a. -/
def stp (a n : Int) : Int := (a + n) % 4294967296
/-- is x on the way up from f to t? -/
def inB (x f t : Int) : Bool := decide ((x - f) % 4294967296 ≤ (t - f) % 4294967296)
def ahB (a b : Int) : Bool := decide (0 < dist b a)
def ltr (a b : Int) : Int := if 0 < dist a b then b else a

theorem dist_walk (a b : Int) : wrap64 (wrap32 ((b - a) % 4294967296)) = dist a b := by unfold wrap64 wrap32 dist; omega
theorem dist_lo (a b : Int) : -2147483648 ≤ dist a b := by unfold dist; omega
theorem dist_hi (a b : Int) : dist a b ≤ 2147483647 := by unfold dist; omega
theorem stp_lo (a n : Int) : 0 ≤ stp a n := by unfold stp; omega
theorem stp_hi (a n : Int) : stp a n ≤ 4294967295 := by unfold stp; omega
theorem stp_walk (a n : Int) : (a + n % 4294967296) % 4294967296 = stp a n := by unfold stp; omega
theorem ltr_lo (a b : Int) (ha : 0 ≤ a) (hb : 0 ≤ b) : 0 ≤ ltr a b := by unfold ltr; split <;> assumption
theorem ltr_hi (a b : Int) (ha : a ≤ 4294967295) (hb : b ≤ 4294967295) : ltr a b ≤ 4294967295 := by unfold ltr; split <;> assumption
theorem ltr_yes (a b : Int) (h : 0 < dist a b) : ltr a b = b := if_pos h
theorem ltr_no (a b : Int) (h : ¬ 0 < dist a b) : ltr a b = a := if_neg h

theorem ref_in_up (x f t : Int) (hx : 0 ≤ x ∧ x ≤ 4294967295) (hf : 0 ≤ f ∧ f ≤ 4294967295) (ht : 0 ≤ t ∧ t ≤ 4294967295) (h : f ≤ t) :
    inB x f t = (decide (f ≤ x) && decide (x ≤ t)) := by
  unfold inB; rw [Bool.eq_iff_iff]; simp; omega
theorem ref_in_down (x f t : Int) (hx : 0 ≤ x ∧ x ≤ 4294967295) (hf : 0 ≤ f ∧ f ≤ 4294967295) (ht : 0 ≤ t ∧ t ≤ 4294967295) (h : ¬ f ≤ t) :
    inB x f t = (decide (f ≤ x) || decide (x ≤ t)) := by
  unfold inB; rw [Bool.eq_iff_iff]; simp; omega

theorem tmod_is (n : Int) : (0 ≤ n ∧ n.tmod 4294967296 = n % 4294967296) ∨ (n < 0 ∧ n.tmod 4294967296 = -((-n) % 4294967296)) := by
  by_cases h : 0 ≤ n
  · exact .inl ⟨h, Int.tmod_eq_emod_of_nonneg h⟩
  · refine .inr ⟨by omega, ?_⟩
    have : n = -(-n) := by omega
    rw [this, Int.neg_tmod, Int.tmod_eq_emod_of_nonneg (by omega)]; simp
theorem wrap_neg (n : Int) (h : n.tmod 4294967296 < 0) : wrap64 (n.tmod 4294967296 + 4294967296) % 4294967296 = n % 4294967296 := by
  unfold wrap64; rcases tmod_is n with ⟨_, e⟩ | ⟨_, e⟩ <;> rw [e] at h ⊢ <;> omega
theorem wrap_pos (n : Int) (h : 0 ≤ n.tmod 4294967296) : n.tmod 4294967296 % 4294967296 = n % 4294967296 := by
  rcases tmod_is n with ⟨_, e⟩ | ⟨_, e⟩ <;> rw [e] at h ⊢ <;> omega
theorem rstep_is (a n : Int) (_h : 0 ≤ a ∧ a ≤ 4294967295) : wrap64 (a + n.tmod 4294967296) % 4294967296 = stp a n := by
  unfold stp wrap64; rcases tmod_is n with ⟨_, e⟩ | ⟨_, e⟩ <;> rw [e] <;> omega
theorem back (a b : Int) (hb : 0 ≤ b ∧ b ≤ 4294967295) : stp a (dist a b) = b := by unfold stp dist; omega
theorem there (a n : Int) (ha : 0 ≤ a ∧ a ≤ 4294967295) : stp (stp a n) (-n) = a := by unfold stp; omega
theorem there_wrap (a n : Int) (ha : 0 ≤ a ∧ a ≤ 4294967295) : stp (stp a n) (wrap64 (-n)) = a := by unfold stp wrap64; omega
theorem same (a b : Int) (ha : 0 ≤ a ∧ a ≤ 4294967295) (hb : 0 ≤ b ∧ b ≤ 4294967295) : (dist a b == 0) = (a == b) := by
  unfold dist; rw [Bool.eq_iff_iff]; simp; omega
theorem turn_dist (a b n : Int) : dist (stp a n) (stp b n) = dist a b := by unfold dist stp; omega
theorem turn_ahead (a b n : Int) : ahB (stp a n) (stp b n) = ahB a b := by unfold ahB; rw [turn_dist]
theorem turn_later (a b n : Int) : ltr (stp a n) (stp b n) = stp (ltr a b) n := by unfold ltr; rw [turn_dist]; split <;> rfl
theorem turn_in (x a b n : Int) : inB (stp x n) (stp a n) (stp b n) = inB x a b := by
  unfold inB stp; rw [Bool.eq_iff_iff]; simp; omega

/-! a, then N further on b, then M further on c, both below 2^30 -/
theorem ord_dist (a N M : Int) (n0 : 0 ≤ N) (n1 : N ≤ 1073741823) (m0 : 0 ≤ M) (m1 : M ≤ 1073741823) : dist a (stp (stp a N) M) = N + M := by unfold dist stp; omega
theorem ord_ahead (a N : Int) (n0 : 0 < N) (n1 : N ≤ 1073741823) : ahB (stp a N) a = true := by unfold ahB dist stp; simp; omega
theorem ord_level (a N : Int) (n0 : 0 ≤ N) (n1 : N ≤ 0) : ahB (stp a N) a = false := by unfold ahB dist stp; simp; omega
theorem ord_in (a N M : Int) (n0 : 0 ≤ N) (n1 : N ≤ 1073741823) (m0 : 0 ≤ M) (m1 : M ≤ 1073741823) : inB (stp a N) a (stp (stp a N) M) = true := by unfold inB stp; simp; omega
theorem ord_out (a N M : Int) (n0 : 0 < N) (n1 : N ≤ 1073741823) (m0 : 0 ≤ M) (m1 : M ≤ 1073741823) : inB a (stp a N) (stp (stp a N) M) = false := by unfold inB stp; simp; omega
theorem ord_later (a N M : Int) (a0 : 0 ≤ a) (a1 : a ≤ 4294967295) (n0 : 0 ≤ N) (n1 : N ≤ 1073741823) (m0 : 0 ≤ M) (m1 : M ≤ 1073741823) : (ltr a (stp (stp a N) M) == stp (stp a N) M) = true := by
  unfold ltr; rw [ord_dist a N M n0 n1 m0 m1]; split
  · simp
  · simp; unfold stp; omega
theorem ord_not (a N M : Int) (n0 : 0 ≤ N) (n1 : N ≤ 1073741823) (m0 : 0 ≤ M) (m1 : M ≤ 1073741823) : ahB a (stp (stp a N) M) = false := by unfold ahB dist stp; simp; omega

theorem steps_add (a n m : Int) : stp (stp a n) m = stp a (n + m) := by unfold stp; omega
theorem later_one (a b : Int) (h : ltr a b ≠ a) : ltr a b = b ∧ 0 < dist a b := by
  unfold ltr at h ⊢; split at h
  · rw [if_pos ‹_›]; exact ⟨rfl, ‹_›⟩
  · exact absurd rfl h

end Go.Proofs.Ytoccnldnaicidaa
