/- The plain mathematics of one's complement sums of words of 16 bits. No condition beyond bounds. -/
import Derived.Lib.Hide
import Derived.WalkKit
import Derived.IntWalk
import Derived.Laws.BitsAllLaws
namespace Go.Proofs.Ytacohanlpgkdeaa
open Go.RowKit

/-- what stands above 16 bits is added below, till nothing stands there. -/
def fo (n : Int) : Int := if n ≤ 0 then 0 else (n - 1) % 65535 + 1

theorem fo_lo (n : Int) : 0 ≤ fo n := by unfold fo; split <;> omega
theorem fo_hi (n : Int) : fo n ≤ 65535 := by unfold fo; split <;> omega
theorem fo_small (n : Int) (h0 : 0 ≤ n) (h : n ≤ 65535) : fo n = n := by unfold fo; split <;> omega
theorem fo_step (n : Int) (h : 65535 < n) : fo (n / 65536 + n % 65536) = fo n := by unfold fo; split <;> split <;> omega
theorem fo_fo (a b : Int) (ha : 0 ≤ a) (hb : 0 ≤ b) : fo (fo a + b) = fo (a + b) := by unfold fo; repeat' split <;> try omega
theorem fo_fo' (a b : Int) (ha : 0 ≤ a) (hb : 0 ≤ b) : fo (a + fo b) = fo (a + b) := by rw [Int.add_comm, fo_fo b a hb ha, Int.add_comm]
theorem fo_sub (n : Int) (h : 65535 < n) (h2 : n ≤ 131070) : n - 65535 = fo n := by unfold fo; split <;> omega

theorem u16_not (x : Int) (h0 : 0 ≤ x) (h1 : x ≤ 65535) : bits .xor .u16 65535 x = 65535 - x := by
  rw [u16_xor 65535 x (by omega) (by omega) h0 (by omega)]
  obtain ⟨n, rfl⟩ := Int.eq_ofNat_of_zero_le h0
  have hn : n < 2 ^ 16 := by omega
  have e : (65535 ^^^ n : Nat) = 65535 - n := by
    apply Nat.eq_of_testBit_eq
    intro i
    have h := Nat.testBit_two_pow_sub_succ hn i
    rw [show 2 ^ 16 - (n + 1) = 65535 - n by omega] at h
    rw [h, Nat.testBit_xor]
    have h2 := Nat.testBit_two_pow_sub_one 16 i
    rw [show 2 ^ 16 - 1 = 65535 by omega] at h2
    rw [h2]
    by_cases hi : i < 16
    · simp [hi]
    · have hf : n.testBit i = false := Nat.testBit_lt_two_pow (Nat.lt_of_lt_of_le hn (Nat.pow_le_pow_right (by omega) (by omega)))
      simp [hi, hf]
  show ((65535 ^^^ n : Nat) : Int) = _
  rw [e]; omega

theorem u64_or8 (a b : Int) (a0 : 0 ≤ a) (a1 : a ≤ 255) (b0 : 0 ≤ b) (b1 : b ≤ 255) : bits .or .u64 (a * 256) b = a * 256 + b := by
  rw [u64_or _ _ (by omega) (by omega) b0 (by omega), nat_join 8 _ _ (by omega) (by omega)]
  omega
theorem u16_or8 (a b : Int) (a0 : 0 ≤ a) (a1 : a ≤ 255) (b0 : 0 ≤ b) (b1 : b ≤ 255) : bits .or .u16 (a * 256) b = a * 256 + b := by
  rw [u16_or _ _ (by omega) (by omega) b0 (by omega), nat_join 8 _ _ (by omega) (by omega)]
  omega

/-- what a check sum is when a word that was old is now another. -/
def mend (c o n : Int) : Int := 65535 - fo (fo (65535 - c + (65535 - o)) + n)
theorem mend_lo (c o n : Int) : 0 ≤ mend c o n := by unfold mend; have := fo_hi (fo (65535 - c + (65535 - o)) + n); omega
theorem mend_hi (c o n : Int) : mend c o n ≤ 65535 := by unfold mend; have := fo_lo (fo (65535 - c + (65535 - o)) + n); omega

def pseudo (s d p z : Int) : Int := fo (s / 65536 + s % 65536 + (d / 65536 + d % 65536) + p % 65536 + z % 65536)

/-- the words' total. -/
def tot : List UInt8 → Int
  | [] => 0
  | [a] => 256 * (a.toNat : Int)
  | a :: b :: r => 256 * (a.toNat : Int) + (b.toNat : Int) + tot r
theorem tot_lo : ∀ l : List UInt8, 0 ≤ tot l
  | [] => by simp [tot]
  | [a] => by simp only [tot]; omega
  | a :: b :: r => by have := tot_lo r; simp only [tot]; omega
theorem tot_hi : ∀ l : List UInt8, tot l ≤ 65535 * (l.length : Int)
  | [] => by simp [tot]
  | [a] => by have := a.toNat_lt; simp [tot]; omega
  | a :: b :: r => by have := tot_hi r; have := a.toNat_lt; have := b.toNat_lt; simp [tot]; omega

def wrds : List UInt8 → List Int
  | [] => []
  | [a] => [256 * (a.toNat : Int)]
  | a :: b :: r => (256 * (a.toNat : Int) + (b.toNat : Int)) :: wrds r
theorem wrds_append : ∀ (p q : List UInt8), p.length % 2 = 0 → wrds (p ++ q) = wrds p ++ wrds q
  | [], q, _ => rfl
  | [a], q, h => by simp at h
  | a :: b :: r, q, h => by
    have := wrds_append r q (by simp at h; omega)
    simp only [List.cons_append, wrds, this]
theorem wrds_length : ∀ (p : List UInt8), (wrds p).length = (p.length + 1) / 2
  | [] => rfl
  | [a] => by simp [wrds]
  | a :: b :: r => by have := wrds_length r; simp only [wrds, List.length_cons, this]; omega
theorem wrds_sum : ∀ (p : List UInt8), (wrds p).sum = tot p
  | [] => rfl
  | [a] => by simp [wrds, tot]
  | a :: b :: r => by have := wrds_sum r; simp [wrds, tot, this]
theorem wrds_bd : ∀ (p : List UInt8), ∀ x ∈ wrds p, 0 ≤ x ∧ x ≤ 65535
  | [] => by simp [wrds]
  | [a] => by have := a.toNat_lt; intro x hx; simp [wrds] at hx; omega
  | a :: b :: r => by
    have h1 := a.toNat_lt
    have h2 := b.toNat_lt
    have := wrds_bd r
    intro x hx
    simp only [wrds, List.mem_cons] at hx
    rcases hx with rfl | hx
    · omega
    · exact this x hx
theorem wrds_two (l : List UInt8) (i : Nat) (hi : i % 2 = 0) (h : i + 1 < l.length) : wrds (l.take (i + 2)) = wrds (l.take i) ++ [256 * (l[i].toNat : Int) + (l[i + 1].toNat : Int)] := by
  have e : l.take (i + 2) = l.take i ++ [l[i], l[i + 1]] := by
    rw [show i + 2 = i + 1 + 1 from rfl, List.take_succ_eq_append_getElem (by omega), List.take_succ_eq_append_getElem (by omega), List.append_assoc]; rfl
  rw [e, wrds_append _ _ (by rw [List.length_take, Nat.min_eq_left (by omega)]; exact hi)]
  rfl
theorem wrds_one (l : List UInt8) (i : Nat) (hi : i % 2 = 0) (h : i + 1 = l.length) : wrds (l.take (i + 2)) = wrds (l.take i) ++ [256 * ((l[i]'(by omega)).toNat : Int)] := by
  have e : l.take (i + 2) = l.take i ++ [l[i]] := by
    rw [List.take_of_length_le (by omega)]
    rw [← List.take_succ_eq_append_getElem (by omega), List.take_of_length_le (by omega)]
  rw [e, wrds_append _ _ (by rw [List.length_take, Nat.min_eq_left (by omega)]; exact hi)]
  rfl

end Go.Proofs.Ytacohanlpgkdeaa
