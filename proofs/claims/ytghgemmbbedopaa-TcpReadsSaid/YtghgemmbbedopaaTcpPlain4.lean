/- Options that are asked one by one, by the bytes at a place: plain mathematics. -/
import Derived.Test.YtghgemmbbedopaaTcpPlain3
namespace Go.Proofs.Ytghgemmbbedopaa
open Go.RowKit
set_option linter.unusedVariables false

theorem pOpts_end (f : Nat) (l : List UInt8) (p : Nat) (acc : List Op) (h : l.length ≤ p) : pOpts f (l.drop p) acc = some acc := by
  rw [List.drop_of_length_le h]; cases f <;> rfl
theorem pOpts_zero (f : Nat) (l : List UInt8) (p : Nat) (acc : List Op) (h : p < l.length) (h0 : g8 l p = 0) : pOpts (f + 1) (l.drop p) acc = some acc := by
  rw [g8_at l p h] at h0
  have e : l[p] = 0 := UInt8.toNat_inj.1 (by simp; omega)
  cases hd : l.drop (p + 1) with
  | nil => rw [List.drop_eq_getElem_cons h, hd, e, pOpts, if_pos rfl]
  | cons n r => rw [List.drop_eq_getElem_cons h, hd, e, pOpts, if_pos rfl]
theorem pOpts_one (f : Nat) (l : List UInt8) (p : Nat) (acc : List Op) (h : p < l.length) (h1 : g8 l p = 1) : pOpts (f + 1) (l.drop p) acc = pOpts f (l.drop (p + 1)) acc := by
  rw [g8_at l p h] at h1
  have e : l[p] = 1 := UInt8.toNat_inj.1 (by simp; omega)
  cases hd : l.drop (p + 1) with
  | nil => rw [List.drop_eq_getElem_cons h, hd, e, pOpts, if_neg (by decide), if_pos rfl]
  | cons n r => rw [List.drop_eq_getElem_cons h, hd, e, pOpts, if_neg (by decide), if_pos rfl]
theorem pOpts_bad (f : Nat) (l : List UInt8) (p : Nat) (acc : List Op) (h : p < l.length) (h0 : g8 l p ≠ 0) (h1 : g8 l p ≠ 1) (hb : l.length ≤ p + 1 ∨ g8 l (p + 1) < 2 ∨ (l.length : Int) < p + g8 l (p + 1)) : pOpts (f + 1) (l.drop p) acc = none := by
  rw [g8_at l p h] at h0 h1
  have e0 : ¬ l[p] = 0 := fun e => h0 (by rw [e]; rfl)
  have e1 : ¬ l[p] = 1 := fun e => h1 (by rw [e]; rfl)
  rw [List.drop_eq_getElem_cons h]
  by_cases hl : p + 1 < l.length
  · rw [List.drop_eq_getElem_cons hl, pOpts, if_neg e0, if_neg e1]
    rw [g8_at l (p + 1) hl] at hb
    rw [if_pos]
    rw [List.length_drop]
    rcases hb with hb | hb | hb
    · omega
    · left; omega
    · by_cases h2 : (l[p + 1]).toNat < 2
      · left; exact h2
      · right; omega
  · rw [List.drop_of_length_le (by omega), pOpts, if_neg e0, if_neg e1]
theorem pOpts_step (f : Nat) (l : List UInt8) (p : Nat) (acc : List Op) (n : Nat) (hn : (n : Int) = g8 l (p + 1)) (h : p + 1 < l.length) (h0 : g8 l p ≠ 0) (h1 : g8 l p ≠ 1) (h2 : 2 ≤ n) (h3 : p + n ≤ l.length) :
    pOpts (f + 1) (l.drop p) acc = if rightB (acc ++ [⟨g8 l p, (l.take (p + n)).drop (p + 2)⟩]) then pOpts f (l.drop (p + n)) (acc ++ [⟨g8 l p, (l.take (p + n)).drop (p + 2)⟩]) else none := by
  rw [g8_at l (p + 1) h] at hn
  have hk := g8_at l p (by omega)
  rw [hk] at h0 h1 ⊢
  have e0 : ¬ l[p] = 0 := fun e => h0 (by rw [e]; rfl)
  have e1 : ¬ l[p] = 1 := fun e => h1 (by rw [e]; rfl)
  have hn' : l[p + 1].toNat = n := by omega
  rw [List.drop_eq_getElem_cons (show p < l.length by omega), List.drop_eq_getElem_cons h, pOpts, if_neg e0, if_neg e1]
  rw [hn', if_neg (by rw [List.length_drop]; omega)]
  have d1 : (l.drop (p + 1 + 1)).drop (n - 2) = l.drop (p + n) := by rw [List.drop_drop]; congr 1; omega
  have d2 : (l.drop (p + 1 + 1)).take (n - 2) = (l.take (p + n)).drop (p + 2) := by rw [List.drop_take]; congr 1; omega
  rw [d1, d2]
end Go.Proofs.Ytghgemmbbedopaa
