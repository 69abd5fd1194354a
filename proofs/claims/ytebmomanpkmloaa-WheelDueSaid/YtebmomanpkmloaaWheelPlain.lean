/- Wheels of alarms: plain mathematics. -/
import Derived.Test.YtebmomanpkmloaaRows
namespace Go.Proofs.Ytebmomanpkmloaa
set_option linter.unusedVariables false

structure Al where
  num : Int
  at_ : Int
/-- a wheel as the document has it: its alarms in the order in which they were set. -/
structure Wh where
  list : List Al
  now : Int
abbrev wh0 : Wh := ⟨[], 0⟩
def findH (l : List Al) (n : Int) : Option Nat := l.findIdx? (fun a => a.num == n)
def setH (x : Wh) (n t : Int) : Wh × Int :=
  if n < 0 ∨ n > 2147483647 ∨ t < 0 ∨ t > 1099511627776 then (x, 1)
  else if t ≤ x.now then (x, 14)
  else match findH x.list n with
    | none => if 256 ≤ x.list.length then (x, 8) else (⟨x.list ++ [⟨n, t⟩], x.now⟩, 0)
    | some i => (⟨x.list.take i ++ x.list.drop (i + 1) ++ [⟨n, t⟩], x.now⟩, 0)
def dropH (x : Wh) (n : Int) : Wh × Int := match findH x.list n with
  | none => (x, 9)
  | some i => (⟨x.list.take i ++ x.list.drop (i + 1), x.now⟩, 0)
def whenH (x : Wh) (n : Int) : Int × Bool := match findH x.list n with
  | none => (0, false)
  | some i => ((x.list.getD i ⟨0, 0⟩).at_, true)
def leA (a b : Al) : Bool := decide (a.at_ < b.at_) || (decide (a.at_ = b.at_) && decide (a.num ≤ b.num))
def isDue (now : Int) (a : Al) : Bool := decide (a.at_ ≤ now)
/-- what is due, in its order. -/
def dueA (l : List Al) (now : Int) : List Al := (l.filter (isDue now)).mergeSort leA
def leftA (l : List Al) (now : Int) : List Al := l.filter (fun a => !isDue now a)
def numsA (l : List Al) : List Int := l.map (·.num)
def tickH (x : Wh) (now : Int) : Wh × List Int × Int :=
  if now < x.now ∨ now > 1099511627776 then (x, [], 1) else (⟨leftA x.list now, now⟩, numsA (dueA x.list now), 0)
theorem leA_iff (a b : Al) : leA a b = true ↔ a.at_ < b.at_ ∨ (a.at_ = b.at_ ∧ a.num ≤ b.num) := by simp [leA]
theorem leA_trans (a b c : Al) (h1 : leA a b = true) (h2 : leA b c = true) : leA a c = true := by
  rw [leA_iff] at h1 h2 ⊢
  omega
theorem leA_total (a b : Al) : (leA a b || leA b a) = true := by
  rw [Bool.or_eq_true, leA_iff, leA_iff]
  omega
theorem leA_anti (a b : Al) (h1 : leA a b = true) (h2 : leA b a = true) : a = b := by
  rw [leA_iff] at h1 h2
  cases a; cases b
  dsimp only at h1 h2
  have e1 : ‹Int› = ‹Int› := rfl
  simp only [Al.mk.injEq]
  omega
def SortA (l : List Al) : Prop := l.Pairwise (fun a b => leA a b = true)
theorem due_perm (l : List Al) (now : Int) : (dueA l now).Perm (l.filter (isDue now)) := List.mergeSort_perm _ _
theorem due_sort (l : List Al) (now : Int) : SortA (dueA l now) := List.pairwise_mergeSort leA_trans leA_total _
/-- what is due is known by its alarms and its order. -/
theorem due_is {l d : List Al} {now : Int} (hp : d.Perm (l.filter (isDue now))) (hs : SortA d) : dueA l now = d :=
  List.Perm.eq_of_pairwise (fun a b _ _ h1 h2 => leA_anti a b h1 h2) (due_sort l now) hs ((due_perm l now).trans hp.symm)
theorem due_mem {l : List Al} {now : Int} {a : Al} : a ∈ dueA l now ↔ a ∈ l ∧ a.at_ ≤ now := by
  rw [(due_perm l now).mem_iff, List.mem_filter]
  simp [isDue]
theorem left_mem {l : List Al} {now : Int} {a : Al} : a ∈ leftA l now ↔ a ∈ l ∧ now < a.at_ := by
  unfold leftA
  rw [List.mem_filter]
  simp [isDue]
theorem due_nil {l : List Al} {now : Int} (h : ∀ a ∈ l, now < a.at_) : dueA l now = [] ∧ leftA l now = l := by
  constructor
  · rw [List.eq_nil_iff_forall_not_mem]
    intro a ha
    obtain ⟨h1, h2⟩ := due_mem.1 ha
    have := h a h1
    omega
  · unfold leftA
    rw [List.filter_eq_self]
    intro a ha
    have := h a ha
    simp [isDue]
    omega
theorem due_length (l : List Al) (now : Int) : (dueA l now).length + (leftA l now).length = l.length := by
  rw [(due_perm l now).length_eq]
  unfold leftA
  rw [← List.countP_eq_length_filter, ← List.countP_eq_length_filter]
  have := List.length_eq_countP_add_countP (isDue now) (l := l)
  simpa using this.symm
/-- the least alarm that is due goes first. -/
theorem due_cons {l1 l2 : List Al} {b : Al} {now : Int} (hb : b.at_ ≤ now) (h1 : ∀ a ∈ l1, a.at_ ≤ now → leA b a = true) (h2 : ∀ a ∈ l2, a.at_ ≤ now → leA b a = true) : dueA (l1 ++ b :: l2) now = b :: dueA (l1 ++ l2) now := by
  apply due_is
  · rw [List.filter_append, List.filter_cons, if_pos (by simpa [isDue] using hb)]
    refine ((List.Perm.cons b (due_perm (l1 ++ l2) now)).trans ?_)
    rw [List.filter_append]
    exact List.perm_middle.symm
  · refine List.pairwise_cons.2 ⟨fun a ha => ?_, due_sort _ _⟩
    obtain ⟨hm, ht⟩ := due_mem.1 ha
    rcases List.mem_append.1 hm with hm | hm
    · exact h1 a hm ht
    · exact h2 a hm ht
theorem left_drop {l1 l2 : List Al} {b : Al} {now : Int} (hb : b.at_ ≤ now) : leftA (l1 ++ b :: l2) now = leftA (l1 ++ l2) now := by
  unfold leftA
  rw [List.filter_append, List.filter_append, List.filter_cons, if_neg (by simpa [isDue] using hb)]
/-- two ticks. -/
theorem due_two (l : List Al) {f g : Int} (h : f ≤ g) : dueA l g = dueA l f ++ dueA (leftA l f) g := by
  apply due_is
  · refine (List.Perm.append (due_perm l f) (due_perm (leftA l f) g)).trans ?_
    unfold leftA
    rw [List.filter_filter]
    have e1 : (l.filter (isDue f)) = (l.filter (isDue g)).filter (isDue f) := by
      rw [List.filter_filter]
      refine List.filter_congr fun a _ => ?_
      simp [isDue]
      omega
    have e2 : (l.filter fun a => isDue g a && !isDue f a) = (l.filter (isDue g)).filter (fun a => !isDue f a) := by
      rw [List.filter_filter]
      refine List.filter_congr fun a _ => ?_
      rw [Bool.and_comm]
    rw [e1, e2]
    exact List.filter_append_perm _ _
  · refine List.pairwise_append.2 ⟨due_sort _ _, due_sort _ _, fun a ha b hb => ?_⟩
    have h1 := (due_mem.1 ha).2
    have h2 := (left_mem.1 (due_mem.1 hb).1).2
    rw [leA_iff]
    omega
theorem left_two (l : List Al) {f g : Int} (h : f ≤ g) : leftA (leftA l f) g = leftA l g := by
  unfold leftA
  rw [List.filter_filter]
  refine List.filter_congr fun a _ => ?_
  simp [isDue]
  omega
/-- finding. -/
theorem find_none {l : List Al} {n : Int} (h : findH l n = none) : ∀ a ∈ l, a.num ≠ n := by
  intro a ha e
  have := List.findIdx?_eq_none_iff.1 h a ha
  rw [e] at this
  simp at this
theorem find_some {l : List Al} {n : Int} {i : Nat} (h : findH l n = some i) : ∃ hi : i < l.length, l[i].num = n ∧ ∀ j (hj : j < i), (l[j]'(Nat.lt_trans hj hi)).num ≠ n := by
  obtain ⟨h1, h2, h3⟩ := List.findIdx?_eq_some_iff_getElem.1 h
  refine ⟨h1, by simpa using h2, fun j hj e => ?_⟩
  have := h3 j hj
  rw [e] at this
  simp at this
theorem find_not {l : List Al} {n : Int} (h : ∀ a ∈ l, a.num ≠ n) : findH l n = none := by
  unfold findH
  rw [List.findIdx?_eq_none_iff]
  intro a ha
  simpa using h a ha
theorem find_is {l : List Al} {n : Int} {i : Nat} (hi : i < l.length) (h : l[i].num = n) (h0 : ∀ j (hj : j < i), (l[j]'(Nat.lt_trans hj hi)).num ≠ n) : findH l n = some i := by
  unfold findH
  rw [List.findIdx?_eq_some_iff_getElem]
  exact ⟨hi, by simpa using h, fun j hj => by simpa using h0 j hj⟩
/-- numbers that differ. -/
def OnceA (l : List Al) : Prop := l.Pairwise (fun a b => a.num ≠ b.num)
theorem OnceA.find {l : List Al} (o : OnceA l) {a : Al} (ha : a ∈ l) : ∃ i, ∃ hi : i < l.length, findH l a.num = some i ∧ l[i] = a := by
  obtain ⟨i, hi, rfl⟩ := List.getElem_of_mem ha
  refine ⟨i, hi, find_is hi rfl fun j hj e => ?_, rfl⟩
  exact List.pairwise_iff_getElem.1 o j i (by omega) hi hj e
theorem OnceA.left {l : List Al} (o : OnceA l) (now : Int) : OnceA (leftA l now) := List.Pairwise.filter _ o
theorem OnceA.when {l : List Al} (o : OnceA l) {a : Al} (ha : a ∈ l) (now : Int) : whenH ⟨l, now⟩ a.num = (a.at_, true) := by
  obtain ⟨i, hi, h1, h2⟩ := o.find ha
  unfold whenH
  dsimp only
  rw [h1]
  dsimp only
  rw [List.getD_eq_getElem?_getD, List.getElem?_eq_getElem hi, h2]
  rfl
theorem when_not {l : List Al} {n : Int} (h : ∀ a ∈ l, a.num ≠ n) (now : Int) : whenH ⟨l, now⟩ n = (0, false) := by
  unfold whenH
  dsimp only
  rw [find_not h]
end Go.Proofs.Ytebmomanpkmloaa
