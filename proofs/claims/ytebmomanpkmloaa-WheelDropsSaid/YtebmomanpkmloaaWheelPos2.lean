/- A heap's alarms and the document's wheel: plain mathematics. -/
import Derived.Test.YtebmomanpkmloaaWheelPos
namespace Go.Proofs.Ytebmomanpkmloaa
set_option linter.unusedVariables false

theorem cut_perm {l : List Al} {i : Nat} (hi : i < l.length) : l.Perm (l[i] :: (l.take i ++ l.drop (i + 1))) := by
  have h := cut_split hi
  have p : (l.take i ++ l[i] :: l.drop (i + 1)).Perm (l[i] :: (l.take i ++ l.drop (i + 1))) := List.perm_middle
  rw [← h] at p
  exact p
theorem set_perm {l : List Al} {i : Nat} (hi : i < l.length) (a : Al) : (l.set i a).Perm (a :: (l.take i ++ l.drop (i + 1))) := by
  rw [List.set_eq_take_append_cons_drop, if_pos hi]
  exact List.perm_middle
theorem OnceA.same {l : List Al} (o : OnceA l) {a b : Al} (ha : a ∈ l) (hb : b ∈ l) (e : a.num = b.num) : a = b := by
  obtain ⟨i, hi, h1, h2⟩ := o.find ha
  obtain ⟨j, hj, h3, h4⟩ := o.find hb
  rw [e, h3] at h1
  injection h1 with h1
  subst h1
  exact h2.symm.trans h4
theorem at_mem {l : List Al} {i : Nat} (hi : i < l.length) : atA l i ∈ l := by rw [atA_get hi]; exact List.getElem_mem hi
/-- where both have a number, what is left of both is the same. -/
theorem cut_both {l X : List Al} (p : l.Perm X) (o : OnceA X) {n : Int} {i j : Nat} (h1 : findH l n = some i) (h2 : findH X n = some j) : ∃ hi : i < l.length, ∃ hj : j < X.length, X[j] = atA l i ∧ (l.take i ++ l.drop (i + 1)).Perm (X.take j ++ X.drop (j + 1)) := by
  obtain ⟨hi, e1, _⟩ := find_some h1
  obtain ⟨hj, e2, _⟩ := find_some h2
  have e : X[j] = l[i] := o.same (List.getElem_mem hj) (p.mem_iff.1 (List.getElem_mem hi)) (e2.trans e1.symm)
  refine ⟨hi, hj, by rw [atA_get hi]; exact e, ?_⟩
  have q := (cut_perm hi).symm.trans (p.trans (cut_perm hj))
  rw [e] at q
  exact q.cons_inv
theorem find_both {l X : List Al} (p : l.Perm X) {n : Int} {i : Nat} (h : findH l n = some i) : ∃ j, findH X n = some j := by
  cases hx : findH X n with
  | none =>
    rw [(find_perm p n).2 hx] at h
    cases h
  | some j => exact ⟨j, rfl⟩
theorem when_none {l : List Al} {x : Wh} (p : l.Perm x.list) {n : Int} (h : findH l n = none) : whenH x n = (0, false) := by
  unfold whenH
  rw [(find_perm p n).1 h]
theorem when_some {l : List Al} {x : Wh} (p : l.Perm x.list) (o : OnceA x.list) {n : Int} {i : Nat} (h : findH l n = some i) : whenH x n = ((atA l i).at_, true) := by
  obtain ⟨j, hj⟩ := find_both p h
  obtain ⟨hi, hj', e, _⟩ := cut_both p o h hj
  unfold whenH
  rw [hj]
  dsimp only
  rw [List.getD_eq_getElem?_getD, List.getElem?_eq_getElem hj', e]
  rfl
theorem drop_none {l : List Al} {x : Wh} (p : l.Perm x.list) {n : Int} (h : findH l n = none) : dropH x n = (x, 9) := by
  unfold dropH
  rw [(find_perm p n).1 h]
theorem drop_some {l l' : List Al} {x : Wh} (p : l.Perm x.list) (o : OnceA x.list) {n : Int} {i : Nat} (h : findH l n = some i) (h' : (atA l i :: l').Perm l) : ∃ X, dropH x n = (⟨X, x.now⟩, 0) ∧ l'.Perm X := by
  obtain ⟨j, hj⟩ := find_both p h
  obtain ⟨hi, hj', e, q⟩ := cut_both p o h hj
  refine ⟨_, by unfold dropH; rw [hj], ?_⟩
  have r := h'.trans (cut_perm hi)
  rw [← atA_get hi] at r
  exact r.cons_inv.trans q
theorem set_new {l l' : List Al} {x : Wh} (p : l.Perm x.list) {n t : Int} (hb : 0 ≤ n ∧ n ≤ 2147483647 ∧ x.now < t ∧ t ≤ 1099511627776) (h0 : 0 ≤ x.now) (h : findH l n = none) (hl : l.length < 256) (h' : l'.Perm (l ++ [⟨n, t⟩])) : ∃ X, setH x n t = (⟨X, x.now⟩, 0) ∧ l'.Perm X := by
  refine ⟨x.list ++ [⟨n, t⟩], ?_, h'.trans (p.append_right _)⟩
  unfold setH
  rw [if_neg (by omega), if_neg (by omega), (find_perm p n).1 h]
  dsimp only
  rw [if_neg (by rw [← p.length_eq]; omega)]
theorem set_full {l : List Al} {x : Wh} (p : l.Perm x.list) {n t : Int} (hb : 0 ≤ n ∧ n ≤ 2147483647 ∧ x.now < t ∧ t ≤ 1099511627776) (h0 : 0 ≤ x.now) (h : findH l n = none) (hl : 256 ≤ l.length) : setH x n t = (x, 8) := by
  unfold setH
  rw [if_neg (by omega), if_neg (by omega), (find_perm p n).1 h]
  dsimp only
  rw [if_pos (by rw [← p.length_eq]; omega)]
theorem set_again {l l' : List Al} {x : Wh} (p : l.Perm x.list) (o : OnceA x.list) {n t : Int} (hb : 0 ≤ n ∧ n ≤ 2147483647 ∧ x.now < t ∧ t ≤ 1099511627776) (h0 : 0 ≤ x.now) {i : Nat} (h : findH l n = some i) (h' : l'.Perm (l.set i ⟨n, t⟩)) : ∃ X, setH x n t = (⟨X, x.now⟩, 0) ∧ l'.Perm X := by
  obtain ⟨j, hj⟩ := find_both p h
  obtain ⟨hi, hj', e, q⟩ := cut_both p o h hj
  refine ⟨_, set_found hb h0 hj, ?_⟩
  refine h'.trans ((set_perm hi ⟨n, t⟩).trans ?_)
  refine (List.Perm.cons _ q).trans ?_
  exact (List.perm_append_comm (l₁ := [_]))
/-- what is due hangs on the alarms alone, not on their order. -/
theorem due_eq {l l' : List Al} (p : l'.Perm l) (now : Int) : dueA l' now = dueA l now :=
  due_is ((due_perm l now).trans (p.symm.filter _)) (due_sort l now)
theorem left_perm {l l' : List Al} (p : l'.Perm l) (now : Int) : (leftA l' now).Perm (leftA l now) := p.filter _
/-- the first one of a heap is due first. -/
theorem due_first {l l' : List Al} {now : Int} (hp : HeapA l l.length) (h : (atA l 0 :: l').Perm l) (hd : (atA l 0).at_ ≤ now) : dueA l now = atA l 0 :: dueA l' now ∧ (leftA l' now).Perm (leftA l now) := by
  have hle : ∀ a ∈ l', leA (atA l 0) a = true := fun a ha => by
    have hm := h.mem_iff.1 (List.mem_cons_of_mem _ ha)
    obtain ⟨k, hk, rfl⟩ := List.getElem_of_mem hm
    have := hp.first k hk
    rwa [atA_get hk] at this
  constructor
  · rw [← due_eq h]
    exact due_cons (l1 := []) (l2 := l') hd (fun a ha => by cases ha) (fun a ha _ => hle a ha)
  · refine List.Perm.trans ?_ (left_perm h now)
    have := left_drop (l1 := []) (l2 := l') (b := atA l 0) (now := now) hd
    rw [List.nil_append, List.nil_append] at this
    rw [this]
/-- nothing is due where the first one isn't. -/
theorem due_none {l : List Al} {now : Int} (hp : HeapA l l.length) (h : l.length = 0 ∨ now < (atA l 0).at_) : dueA l now = [] ∧ leftA l now = l := by
  refine due_nil fun a ha => ?_
  obtain ⟨k, hk, rfl⟩ := List.getElem_of_mem ha
  rcases h with h | h
  · omega
  · have := hp.first k hk
    rw [leA_iff, atA_get hk] at this
    omega
end Go.Proofs.Ytebmomanpkmloaa
