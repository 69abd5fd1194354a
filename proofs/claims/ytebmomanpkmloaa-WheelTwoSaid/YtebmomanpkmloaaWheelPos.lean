/- Where each alarm stands in a row: plain mathematics. -/
import Derived.Test.YtebmomanpkmloaaHeapPlain
namespace Go.Proofs.Ytebmomanpkmloaa
set_option linter.unusedVariables false

theorem OnceA.at_iff {l : List Al} (o : OnceA l) (z : Int) (i : Nat) : findH l z = some i ↔ i < l.length ∧ (atA l i).num = z := by
  constructor
  · intro h
    obtain ⟨hi, h1, _⟩ := find_some h
    exact ⟨hi, by rw [atA_get hi]; exact h1⟩
  · rintro ⟨hi, h1⟩
    rw [atA_get hi] at h1
    refine find_is hi h1 fun j hj e => ?_
    exact List.pairwise_iff_getElem.1 o j i (by omega) hi hj (e.trans h1.symm)
theorem OnceA.inj {l : List Al} (o : OnceA l) {i j : Nat} (hi : i < l.length) (hj : j < l.length) (e : (atA l i).num = (atA l j).num) : i = j := by
  have h1 := (o.at_iff (atA l i).num i).2 ⟨hi, rfl⟩
  have h2 := (o.at_iff (atA l i).num j).2 ⟨hj, e.symm⟩
  rw [h1] at h2
  injection h2
theorem OnceA.perm {l l' : List Al} (o : OnceA l) (h : l'.Perm l) : OnceA l' := (h.pairwise_iff (fun {a b} hne => Ne.symm hne)).2 o
theorem OnceA.sw {l : List Al} (o : OnceA l) {i j : Nat} (hi : i < l.length) (hj : j < l.length) : OnceA (swA l i j) := o.perm (sw_perm hi hj)
/-- two alarms change places. -/
theorem find_sw {l : List Al} (o : OnceA l) {i j : Nat} (hi : i < l.length) (hj : j < l.length) (z : Int) : findH (swA l i j) z = if z = (atA l i).num then some j else if z = (atA l j).num then some i else findH l z := by
  have A := sw_at hi hj
  apply Option.ext
  intro k
  rw [(o.sw hi hj).at_iff, sw_len, A k]
  by_cases h1 : z = (atA l i).num
  · rw [if_pos h1]
    constructor
    · rintro ⟨hk, hz⟩
      by_cases e1 : j = k
      · rw [e1]
      · rw [if_neg e1] at hz
        by_cases e2 : i = k
        · rw [if_pos e2] at hz
          have := o.inj hj hi (hz.trans h1)
          omega
        · rw [if_neg e2] at hz
          have := o.inj hk hi (hz.trans h1)
          omega
    · intro e
      injection e with e
      subst e
      exact ⟨hj, by rw [if_pos rfl]; exact h1.symm⟩
  · rw [if_neg h1]
    by_cases h2 : z = (atA l j).num
    · rw [if_pos h2]
      constructor
      · rintro ⟨hk, hz⟩
        by_cases e1 : j = k
        · rw [if_pos e1] at hz; exact absurd hz.symm h1
        · rw [if_neg e1] at hz
          by_cases e2 : i = k
          · rw [e2]
          · rw [if_neg e2] at hz
            have := o.inj hk hj (hz.trans h2)
            omega
      · intro e
        injection e with e
        subst e
        refine ⟨hi, ?_⟩
        by_cases e1 : j = i
        · rw [e1] at h2; exact absurd h2 h1
        · rw [if_neg e1, if_pos rfl]; exact h2.symm
    · rw [if_neg h2, o.at_iff]
      constructor
      · rintro ⟨hk, hz⟩
        by_cases e1 : j = k
        · rw [if_pos e1] at hz; exact absurd hz.symm h1
        · rw [if_neg e1] at hz
          by_cases e2 : i = k
          · rw [if_pos e2] at hz; exact absurd hz.symm h2
          · rw [if_neg e2] at hz; exact ⟨hk, hz⟩
      · rintro ⟨hk, hz⟩
        refine ⟨hk, ?_⟩
        rw [if_neg (fun e => h2 (by rw [e]; exact hz.symm)), if_neg (fun e => h1 (by rw [e]; exact hz.symm))]
        exact hz
theorem at_append {l : List Al} (a : Al) (k : Nat) : atA (l ++ [a]) k = if k < l.length then atA l k else if k = l.length then a else ⟨0, 0⟩ := by
  unfold atA
  rw [List.getD_eq_getElem?_getD, List.getD_eq_getElem?_getD]
  by_cases h : k < l.length
  · rw [if_pos h, List.getElem?_append_left h]
  · rw [if_neg h, List.getElem?_append_right (by omega)]
    by_cases e : k = l.length
    · rw [if_pos e, e, Nat.sub_self]; rfl
    · rw [if_neg e, List.getElem?_eq_none (by simp; omega)]; rfl
/-- one more at the end. -/
theorem find_snoc {l : List Al} (o : OnceA l) {a : Al} (h : ∀ b ∈ l, b.num ≠ a.num) (z : Int) : findH (l ++ [a]) z = if z = a.num then some l.length else findH l z := by
  have o' := o.snoc h
  have hne : ∀ k, k < l.length → (atA l k).num ≠ a.num := fun k hk => by rw [atA_get hk]; exact h _ (List.getElem_mem hk)
  apply Option.ext
  intro k
  rw [o'.at_iff, at_append, List.length_append]
  by_cases h1 : z = a.num
  · rw [if_pos h1]
    constructor
    · rintro ⟨hk, hz⟩
      by_cases e1 : k < l.length
      · rw [if_pos e1] at hz; exact absurd (hz.trans h1) (hne k e1)
      · have : k = l.length := by simp at hk; omega
        rw [this]
    · intro e
      injection e with e
      subst e
      refine ⟨by simp, ?_⟩
      rw [if_neg (by omega), if_pos rfl]; exact h1.symm
  · rw [if_neg h1, o.at_iff]
    constructor
    · rintro ⟨hk, hz⟩
      by_cases e1 : k < l.length
      · rw [if_pos e1] at hz; exact ⟨e1, hz⟩
      · have e2 : k = l.length := by simp at hk; omega
        rw [if_neg e1, if_pos e2] at hz; exact absurd hz.symm h1
    · rintro ⟨hk, hz⟩
      exact ⟨by simp; omega, by rw [if_pos hk]; exact hz⟩
theorem at_take {l : List Al} {n k : Nat} (h : k < n) : atA (l.take n) k = atA l k := by
  unfold atA
  rw [List.getD_eq_getElem?_getD, List.getD_eq_getElem?_getD, List.getElem?_take, if_pos h]
/-- the last one is taken. -/
theorem find_take {l : List Al} (o : OnceA l) {n : Nat} (hn : l.length = n + 1) (z : Int) : findH (l.take n) z = if z = (atA l n).num then none else findH l z := by
  have o' : OnceA (l.take n) := List.Pairwise.sublist (List.take_sublist n l) o
  have hl : (l.take n).length = n := by rw [List.length_take]; omega
  apply Option.ext
  intro k
  rw [o'.at_iff, hl]
  by_cases h1 : z = (atA l n).num
  · rw [if_pos h1]
    constructor
    · rintro ⟨hk, hz⟩
      rw [at_take hk] at hz
      have := o.inj (by omega) (by omega) (hz.trans h1)
      omega
    · intro e; cases e
  · rw [if_neg h1, o.at_iff]
    constructor
    · rintro ⟨hk, hz⟩
      rw [at_take hk] at hz
      exact ⟨by omega, hz⟩
    · rintro ⟨hk, hz⟩
      have : k ≠ n := fun e => h1 (by rw [← hz, e])
      exact ⟨by omega, by rw [at_take (by omega)]; exact hz⟩
/-- an alarm gets another time. -/
theorem find_when {l : List Al} (o : OnceA l) {i : Nat} (hi : i < l.length) (t : Int) : OnceA (l.set i ⟨(atA l i).num, t⟩) ∧ ∀ z, findH (l.set i ⟨(atA l i).num, t⟩) z = findH l z := by
  have A := atA_set hi ⟨(atA l i).num, t⟩
  have N : ∀ k, (atA (l.set i ⟨(atA l i).num, t⟩) k).num = (atA l k).num := fun k => by
    rw [A k]
    split
    · rename_i e; rw [e]
    · rfl
  have o' : OnceA (l.set i ⟨(atA l i).num, t⟩) := by
    refine List.pairwise_iff_getElem.2 fun p q hp hq hlt e => ?_
    rw [List.length_set] at hp hq
    have hp' : p < (l.set i ⟨(atA l i).num, t⟩).length := by rw [List.length_set]; exact hp
    have hq' : q < (l.set i ⟨(atA l i).num, t⟩).length := by rw [List.length_set]; exact hq
    rw [← atA_get hp', ← atA_get hq', N, N] at e
    have := o.inj hp hq e
    omega
  refine ⟨o', fun z => ?_⟩
  apply Option.ext
  intro k
  rw [o'.at_iff, o.at_iff, List.length_set, N]
/-- the same alarms in another order: who is there is there. -/
theorem find_perm {l l' : List Al} (h : l'.Perm l) (z : Int) : (findH l' z = none ↔ findH l z = none) := by
  constructor
  · intro h1
    exact find_not fun a ha => find_none h1 a (h.mem_iff.2 ha)
  · intro h1
    exact find_not fun a ha => find_none h1 a (h.mem_iff.1 ha)
theorem find_at {l : List Al} (o : OnceA l) {z : Int} {i : Nat} (h : findH l z = some i) : i < l.length ∧ (atA l i).num = z := (o.at_iff z i).1 h
end Go.Proofs.Ytebmomanpkmloaa
