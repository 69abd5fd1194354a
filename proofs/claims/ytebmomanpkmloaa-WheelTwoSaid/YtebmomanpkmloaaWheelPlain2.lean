/- Wheels of alarms: what the laws see: plain mathematics. -/
import Derived.Test.YtebmomanpkmloaaWheelPlain
namespace Go.Proofs.Ytebmomanpkmloaa
set_option linter.unusedVariables false

structure RightW (x : Wh) : Prop where
  once : OnceA x.list
  rng : ∀ a ∈ x.list, 0 ≤ a.num ∧ a.num ≤ 2147483647 ∧ x.now < a.at_ ∧ a.at_ ≤ 1099511627776
  size : x.list.length ≤ 256
  now0 : 0 ≤ x.now
  now1 : x.now ≤ 1099511627776
theorem right_wh0 : RightW wh0 := ⟨List.Pairwise.nil, (fun a h => by cases h), by decide, by decide, by decide⟩
/-- without the alarm at a place. -/
theorem cut_mem {l : List Al} {i : Nat} {a : Al} (h : a ∈ l.take i ++ l.drop (i + 1)) : a ∈ l := by
  rcases List.mem_append.1 h with h | h
  · exact List.mem_of_mem_take h
  · exact List.mem_of_mem_drop h
theorem cut_split {l : List Al} {i : Nat} (hi : i < l.length) : l = l.take i ++ l[i] :: l.drop (i + 1) := by
  rw [← List.drop_eq_getElem_cons hi, List.take_append_drop]
theorem OnceA.cut {l : List Al} (o : OnceA l) {i : Nat} (hi : i < l.length) : OnceA (l.take i ++ l.drop (i + 1)) ∧ (∀ a ∈ l.take i ++ l.drop (i + 1), a.num ≠ l[i].num) := by
  have o' : OnceA (l.take i ++ l[i] :: l.drop (i + 1)) := by rw [← cut_split hi]; exact o
  obtain ⟨p1, p2, p3⟩ := List.pairwise_append.1 o'
  obtain ⟨p4, p5⟩ := List.pairwise_cons.1 p2
  refine ⟨List.pairwise_append.2 ⟨p1, p5, fun a ha b hb => p3 a ha b (List.mem_cons.2 (.inr hb))⟩, fun a ha => ?_⟩
  rcases List.mem_append.1 ha with ha | ha
  · exact p3 a ha _ (List.mem_cons.2 (.inl rfl))
  · exact fun e => p4 a ha e.symm
theorem cut_length {l : List Al} {i : Nat} (hi : i < l.length) : (l.take i ++ l.drop (i + 1)).length + 1 = l.length := by
  rw [List.length_append, List.length_take, List.length_drop]
  omega
theorem OnceA.snoc {l : List Al} (o : OnceA l) {b : Al} (h : ∀ a ∈ l, a.num ≠ b.num) : OnceA (l ++ [b]) :=
  List.pairwise_append.2 ⟨o, List.pairwise_singleton _ _, fun a ha c hc => by obtain rfl := List.mem_singleton.1 hc; exact h a ha⟩
theorem RightW.set {x : Wh} (r : RightW x) (n t : Int) : RightW (setH x n t).1 := by
  unfold setH
  split
  · exact r
  rename_i h1
  split
  · exact r
  rename_i h2
  have hb : 0 ≤ n ∧ n ≤ 2147483647 ∧ x.now < t ∧ t ≤ 1099511627776 := by omega
  cases hf : findH x.list n
  · dsimp only
    split
    · exact r
    · rename_i h3
      refine ⟨r.once.snoc (find_none hf), fun a ha => ?_, by rw [List.length_append]; simp; omega, r.now0, r.now1⟩
      rcases List.mem_append.1 ha with ha | ha
      · exact r.rng a ha
      · obtain rfl := List.mem_singleton.1 ha; exact hb
  · rename_i i
    dsimp only
    obtain ⟨hi, he, _⟩ := find_some hf
    obtain ⟨o1, o2⟩ := r.once.cut hi
    rw [he] at o2
    have hl := cut_length hi
    have hs := r.size
    refine ⟨o1.snoc o2, fun a ha => ?_, by rw [List.length_append]; simp only [List.length_singleton]; omega, r.now0, r.now1⟩
    rcases List.mem_append.1 ha with ha | ha
    · exact r.rng a (cut_mem ha)
    · obtain rfl := List.mem_singleton.1 ha; exact hb
theorem RightW.drop {x : Wh} (r : RightW x) (n : Int) : RightW (dropH x n).1 := by
  unfold dropH
  cases hf : findH x.list n
  · exact r
  · rename_i i
    dsimp only
    obtain ⟨hi, he, _⟩ := find_some hf
    have hl := cut_length hi
    have hs := r.size
    exact ⟨(r.once.cut hi).1, fun a ha => r.rng a (cut_mem ha), by dsimp only; omega, r.now0, r.now1⟩
theorem RightW.tick {x : Wh} (r : RightW x) (now : Int) : RightW (tickH x now).1 := by
  unfold tickH
  split
  · exact r
  · rename_i h
    have h0 := r.now0
    refine ⟨r.once.left now, fun a ha => ?_, Nat.le_trans (List.length_filter_le _ _) r.size, by dsimp only; omega, by dsimp only; omega⟩
    obtain ⟨h1, h2⟩ := left_mem.1 ha
    obtain ⟨q1, q2, q3, q4⟩ := r.rng a h1
    exact ⟨q1, q2, h2, q4⟩
/-- alarms of the numbers from 0 on. -/
def allA (L : List Int) : List Al := (List.range L.length).map (fun (i : Nat) => (⟨(i : Int), L.getD i 0 + 1⟩ : Al))
theorem all_length (L : List Int) : (allA L).length = L.length := by simp [allA]
theorem all_get (L : List Int) (i : Nat) (hi : i < L.length) : (allA L)[i]'(by rw [all_length]; exact hi) = ⟨(i : Int), L[i] + 1⟩ := by
  simp [allA, List.getD_eq_getElem?_getD, hi]
theorem all_mem {L : List Int} {a : Al} : a ∈ allA L ↔ ∃ i, ∃ hi : i < L.length, a = ⟨(i : Int), L[i] + 1⟩ := by
  constructor
  · intro h
    obtain ⟨i, hi, rfl⟩ := List.getElem_of_mem h
    rw [all_length] at hi
    exact ⟨i, hi, all_get L i hi⟩
  · rintro ⟨i, hi, rfl⟩
    rw [← all_get L i hi]
    exact List.getElem_mem _
theorem all_snoc (L : List Int) (k : Nat) (hk : k < L.length) : allA (L.take (k + 1)) = allA (L.take k) ++ [⟨(k : Int), L[k] + 1⟩] := by
  have h1 : (L.take (k + 1)).length = k + 1 := by rw [List.length_take]; omega
  have h2 : (L.take k).length = k := by rw [List.length_take]; omega
  unfold allA
  rw [h1, h2, List.range_succ, List.map_append]
  congr 1
  · refine List.map_congr_left fun i hi => ?_
    have hi := List.mem_range.1 hi
    simp only [List.getD_eq_getElem?_getD, List.getElem?_take, if_pos (show i < k + 1 by omega), if_pos hi]
  · simp [List.getD_eq_getElem?_getD, List.getElem?_take, hk]
theorem all_once (L : List Int) : OnceA (allA L) := by
  unfold OnceA
  rw [List.pairwise_iff_getElem]
  intro i j hi hj hij
  rw [all_length] at hi hj
  rw [all_get L i hi, all_get L j hj]
  dsimp only
  omega
/-- the next one is set. -/
theorem all_set (L : List Int) (hr : ∀ n ∈ L, 0 ≤ n ∧ n ≤ 65535) (hl : L.length ≤ 200) (k : Nat) (hk : k < L.length) : setH ⟨allA (L.take k), 0⟩ (k : Int) (L[k] + 1) = (⟨allA (L.take (k + 1)), 0⟩, 0) := by
  obtain ⟨h0, h1⟩ := hr L[k] (List.getElem_mem hk)
  have hlen : (allA (L.take k)).length = k := by rw [all_length, List.length_take]; omega
  have hf : findH (allA (L.take k)) (k : Int) = none := find_not fun a ha e => by
    obtain ⟨i, hi, rfl⟩ := all_mem.1 ha
    rw [List.length_take] at hi
    dsimp only at e
    omega
  unfold setH
  rw [if_neg (by omega), if_neg (by dsimp only; omega)]
  dsimp only
  rw [hf]
  dsimp only
  rw [if_neg (by rw [hlen]; omega), all_snoc L k hk]
theorem all_left (L : List Int) (hr : ∀ n ∈ L, 0 ≤ n ∧ n ≤ 65535) : leftA (allA L) 0 = allA L := (due_nil fun a ha => by
  obtain ⟨i, hi, rfl⟩ := all_mem.1 ha
  have := hr L[i] (List.getElem_mem hi)
  dsimp only
  omega).2
theorem due_once {l : List Al} (o : OnceA l) (now : Int) : OnceA (dueA l now) :=
  List.Perm.pairwise (due_perm l now).symm (List.Pairwise.filter _ o) (fun {a b} h e => h e.symm)
/-- what is due between two times. -/
theorem all_due (L : List Int) (was now : Int) (k : Nat) (hk : k < (dueA (leftA (allA L) was) now).length) : ∃ i, ∃ hi : i < L.length, (dueA (leftA (allA L) was) now)[k] = ⟨(i : Int), L[i] + 1⟩ ∧ was < L[i] + 1 ∧ L[i] + 1 ≤ now := by
  obtain ⟨h1, h2⟩ := due_mem.1 (List.getElem_mem hk)
  obtain ⟨h3, h4⟩ := left_mem.1 h1
  obtain ⟨i, hi, e⟩ := all_mem.1 h3
  rw [e] at h2 h4
  exact ⟨i, hi, e, h4, h2⟩
theorem all_order (L : List Int) (was now : Int) (k : Nat) (hk : k + 1 < (dueA (leftA (allA L) was) now).length) :
    (dueA (leftA (allA L) was) now)[k].at_ < (dueA (leftA (allA L) was) now)[k + 1].at_ ∨ ((dueA (leftA (allA L) was) now)[k].at_ = (dueA (leftA (allA L) was) now)[k + 1].at_ ∧ (dueA (leftA (allA L) was) now)[k].num < (dueA (leftA (allA L) was) now)[k + 1].num) := by
  have h1 := List.pairwise_iff_getElem.1 (due_sort (leftA (allA L) was) now) k (k + 1) (by omega) hk (by omega)
  have h2 := List.pairwise_iff_getElem.1 (due_once ((all_once L).left was) now) k (k + 1) (by omega) hk (by omega)
  rw [leA_iff] at h1
  omega
theorem all_when (L : List Int) (now t : Int) (i : Nat) (hi : i < L.length) : whenH ⟨leftA (allA L) now, t⟩ (i : Int) = if now < L[i] + 1 then (L[i] + 1, true) else (0, false) := by
  by_cases h : now < L[i] + 1
  · rw [if_pos h]
    exact ((all_once L).left now).when (a := ⟨(i : Int), L[i] + 1⟩) (left_mem.2 ⟨all_mem.2 ⟨i, hi, rfl⟩, h⟩) t
  · rw [if_neg h]
    refine when_not (fun a ha e => ?_) t
    obtain ⟨h1, h2⟩ := left_mem.1 ha
    obtain ⟨j, hj, rfl⟩ := all_mem.1 h1
    dsimp only at e h2
    obtain rfl : j = i := by omega
    exact h h2
/-- an alarm that is set anew, twice. -/
theorem set_found {x : Wh} {n t : Int} {i : Nat} (hb : 0 ≤ n ∧ n ≤ 2147483647 ∧ x.now < t ∧ t ≤ 1099511627776) (h0 : 0 ≤ x.now) (hf : findH x.list n = some i) : setH x n t = (⟨x.list.take i ++ x.list.drop (i + 1) ++ [⟨n, t⟩], x.now⟩, 0) := by
  unfold setH
  rw [if_neg (by omega), if_neg (by omega), hf]
theorem set_twice {x : Wh} {n t u : Int} {i : Nat} (o : OnceA x.list) (hb : 0 ≤ n ∧ n ≤ 2147483647 ∧ x.now < t ∧ t ≤ 1099511627776) (hc : x.now < u ∧ u ≤ 1099511627776) (h0 : 0 ≤ x.now) (hf : findH x.list n = some i) : setH (setH x n t).1 n u = setH x n u := by
  obtain ⟨hi, he, _⟩ := find_some hf
  obtain ⟨o1, o2⟩ := o.cut hi
  rw [he] at o2
  rw [set_found hb h0 hf, set_found (t := u) ⟨hb.1, hb.2.1, hc.1, hc.2⟩ h0 hf]
  dsimp only
  generalize x.list.take i ++ x.list.drop (i + 1) = l at *
  have hf2 : findH (l ++ [⟨n, t⟩]) n = some l.length := find_is (by simp) (by simp) fun j hj => by
    rw [List.getElem_append_left hj]
    exact o2 _ (List.getElem_mem hj)
  rw [set_found (x := ⟨l ++ [(⟨n, t⟩ : Al)], x.now⟩) (t := u) ⟨hb.1, hb.2.1, hc.1, hc.2⟩ h0 hf2]
  dsimp only
  rw [List.take_left, List.drop_eq_nil_of_le (by simp), List.append_nil]
theorem all_find (L : List Int) (i : Nat) (hi : i < L.length) : findH (allA L) (i : Int) = some i := by
  refine find_is (by rw [all_length]; exact hi) (by rw [all_get L i hi]) fun j hj => ?_
  rw [all_get L j (by omega)]
  dsimp only
  omega
/-- two ticks are one. -/
theorem tick_two {x : Wh} {f g : Int} (h1 : x.now ≤ f) (h2 : f ≤ g) (h3 : g ≤ 1099511627776) :
    (tickH x f).2.1 ++ (tickH (tickH x f).1 g).2.1 = (tickH x g).2.1 ∧ (tickH (tickH x f).1 g).1 = (tickH x g).1 := by
  have e1 : tickH x f = (⟨leftA x.list f, f⟩, numsA (dueA x.list f), 0) := by unfold tickH; rw [if_neg (by omega)]
  have e2 : tickH x g = (⟨leftA x.list g, g⟩, numsA (dueA x.list g), 0) := by unfold tickH; rw [if_neg (by omega)]
  have e3 : tickH ⟨leftA x.list f, f⟩ g = (⟨leftA (leftA x.list f) g, g⟩, numsA (dueA (leftA x.list f) g), 0) := by unfold tickH; rw [if_neg (by dsimp only; omega)]
  rw [e1, e2]
  dsimp only
  rw [e3]
  dsimp only
  rw [left_two _ h2, due_two x.list h2]
  exact ⟨by unfold numsA; rw [List.map_append], rfl⟩
/-- some are dropped. -/
def keepA (L : List Int) (D : List Bool) (i : Nat) : List Al := (allA L).filter (fun a => !(decide (a.num < (i : Int)) && D.getD a.num.toNat false))
theorem keep_mem {L : List Int} {D : List Bool} {i : Nat} {a : Al} : a ∈ keepA L D i ↔ a ∈ allA L ∧ ¬ (a.num < (i : Int) ∧ D.getD a.num.toNat false = true) := by
  unfold keepA
  rw [List.mem_filter]
  simp
  intro _
  constructor
  · rintro (h | h) h'
    · omega
    · exact h
  · intro h
    rcases Int.lt_or_le a.num (i : Int) with q | q
    · exact .inr (h q)
    · exact .inl q
theorem keep_zero (L : List Int) (D : List Bool) : keepA L D 0 = allA L := by
  unfold keepA
  rw [List.filter_eq_self]
  intro a ha
  obtain ⟨i, hi, rfl⟩ := all_mem.1 ha
  simp
theorem keep_once (L : List Int) (D : List Bool) (i : Nat) : OnceA (keepA L D i) := List.Pairwise.filter _ (all_once L)
theorem keep_same (L : List Int) (D : List Bool) (i : Nat) (h : D.getD i false = false) : keepA L D (i + 1) = keepA L D i := by
  unfold keepA
  refine List.filter_congr fun a ha => ?_
  obtain ⟨j, hj, rfl⟩ := all_mem.1 ha
  dsimp only
  by_cases e : j = i
  · subst e
    rw [List.getD_eq_getElem?_getD] at h
    simp [h]
  · have : decide ((j : Int) < ((i + 1 : Nat) : Int)) = decide ((j : Int) < (i : Int)) := by rw [decide_eq_decide]; omega
    rw [this]
theorem keep_drop (L : List Int) (D : List Bool) (i : Nat) (hi : i < L.length) (h : D.getD i false = true) (now : Int) : dropH ⟨keepA L D i, now⟩ (i : Int) = (⟨keepA L D (i + 1), now⟩, 0) ∧ dropH ⟨keepA L D (i + 1), now⟩ (i : Int) = (⟨keepA L D (i + 1), now⟩, 9) ∧ (keepA L D (i + 1)).length + 1 = (keepA L D i).length := by
  have hm : (⟨(i : Int), L[i] + 1⟩ : Al) ∈ keepA L D i := keep_mem.2 ⟨all_mem.2 ⟨i, hi, rfl⟩, fun q => by have := q.1; dsimp only at this; omega⟩
  obtain ⟨p, hp, hf, he⟩ := (keep_once L D i).find hm
  dsimp only at hf
  have hcut : (keepA L D i).take p ++ (keepA L D i).drop (p + 1) = keepA L D (i + 1) := by
    have h1 : keepA L D (i + 1) = (keepA L D i).filter (fun a => !(a.num == (i : Int))) := by
      unfold keepA
      rw [List.filter_filter]
      refine List.filter_congr fun a ha => ?_
      obtain ⟨j, hj, rfl⟩ := all_mem.1 ha
      dsimp only
      by_cases e : j = i
      · subst e
        rw [List.getD_eq_getElem?_getD] at h
        simp [h]
        try omega
      · have h2 : decide ((j : Int) < ((i + 1 : Nat) : Int)) = decide ((j : Int) < (i : Int)) := by rw [decide_eq_decide]; omega
        have h3 : ((j : Int) == (i : Int)) = false := by simp; omega
        rw [h2, h3]
        simp
    obtain ⟨o1, o2⟩ := (keep_once L D i).cut hp
    rw [he] at o2
    rw [h1]
    have hs := cut_split hp
    rw [he] at hs
    generalize (keepA L D i).take p = u at *
    generalize (keepA L D i).drop (p + 1) = v at *
    rw [hs, List.filter_append, List.filter_cons, if_neg (by simp), ← List.filter_append]
    exact (List.filter_eq_self.2 fun a ha => by simpa using o2 a ha).symm
  refine ⟨?_, ?_, ?_⟩
  · unfold dropH
    dsimp only
    rw [hf]
    dsimp only
    rw [hcut]
  · unfold dropH
    dsimp only
    rw [find_not]
    intro a ha e
    obtain ⟨h1, h2⟩ := keep_mem.1 ha
    obtain ⟨j, hj, rfl⟩ := all_mem.1 h1
    dsimp only at e h2
    obtain rfl : j = i := by omega
    exact h2 ⟨by omega, by simpa using h⟩
  · rw [← hcut]
    exact cut_length hp
theorem keep_due (L : List Int) (D : List Bool) (hr : ∀ n ∈ L, 0 ≤ n ∧ n ≤ 65535) (i : Nat) : (dueA (keepA L D i) 70000).length = (keepA L D i).length ∧ leftA (keepA L D i) 70000 = [] := by
  have h0 : leftA (keepA L D i) 70000 = [] := by
    rw [List.eq_nil_iff_forall_not_mem]
    intro a ha
    obtain ⟨h1, h2⟩ := left_mem.1 ha
    obtain ⟨j, hj, rfl⟩ := all_mem.1 (keep_mem.1 h1).1
    have := hr L[j] (List.getElem_mem hj)
    dsimp only at h2
    omega
  have := due_length (keepA L D i) 70000
  rw [h0] at this
  exact ⟨by simpa using this, h0⟩
end Go.Proofs.Ytebmomanpkmloaa
