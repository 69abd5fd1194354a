/- Heaps of alarms, as the library's heap keeps them: plain mathematics. -/
import Derived.Test.YtebmomanpkmloaaWheelPlain2
namespace Go.Proofs.Ytebmomanpkmloaa
set_option linter.unusedVariables false

def atA (l : List Al) (i : Nat) : Al := l.getD i ⟨0, 0⟩
def ltA (a b : Al) : Bool := !leA b a
def swA (l : List Al) (i j : Nat) : List Al := (l.set i (atA l j)).set j (atA l i)
def parA (k : Nat) : Nat := (k - 1) / 2
theorem atA_get {l : List Al} {i : Nat} (h : i < l.length) : atA l i = l[i] := by unfold atA; rw [List.getD_eq_getElem?_getD, List.getElem?_eq_getElem h]; rfl
theorem atA_set {l : List Al} {i : Nat} (h : i < l.length) (a : Al) (j : Nat) : atA (l.set i a) j = if i = j then a else atA l j := by
  unfold atA
  rw [List.getD_eq_getElem?_getD, List.getD_eq_getElem?_getD, List.getElem?_set]
  split
  · rename_i e
    subst e
    first | rfl | (rw [if_pos h]; rfl)
  · rfl
theorem sw_len (l : List Al) (i j : Nat) : (swA l i j).length = l.length := by unfold swA; rw [List.length_set, List.length_set]
theorem sw_at {l : List Al} {i j : Nat} (hi : i < l.length) (hj : j < l.length) (k : Nat) : atA (swA l i j) k = if j = k then atA l i else if i = k then atA l j else atA l k := by
  unfold swA
  rw [atA_set (by rw [List.length_set]; exact hj), atA_set hi]
theorem sw_perm {l : List Al} {i j : Nat} (hi : i < l.length) (hj : j < l.length) : (swA l i j).Perm l := by
  unfold swA
  rw [atA_get hi, atA_get hj]
  exact List.set_set_perm hi hj
theorem lt_le {a b : Al} (h : ltA a b = true) : leA a b = true := by
  have := leA_total a b
  unfold ltA at h
  cases hb : leA b a
  · rw [hb] at this; simpa using this
  · rw [hb] at h; cases h
theorem not_lt {a b : Al} (h : ltA a b = false) : leA b a = true := by
  unfold ltA at h
  simpa using h
theorem par_lt {k : Nat} (h : 0 < k) : parA k < k := by unfold parA; omega
theorem par_of {k i : Nat} (h : 0 < k) : parA k = i ↔ (k = 2 * i + 1 ∨ k = 2 * i + 2) := by unfold parA; omega
/-- no alarm is ahead of its parent. -/
def HeapA (l : List Al) (n : Nat) : Prop := ∀ k, 0 < k → k < n → leA (atA l (parA k)) (atA l k) = true
/-- but at one place, below which all is in order. -/
structure HoleA (l : List Al) (n i : Nat) : Prop where
  rest : ∀ k, 0 < k → k < n → k ≠ i → parA k ≠ i → leA (atA l (parA k)) (atA l k) = true
  over : ∀ k, 0 < k → k < n → parA k = i → 0 < i → leA (atA l (parA i)) (atA l k) = true
/-- but that one may be ahead of its parent. -/
structure UpA (l : List Al) (n j : Nat) : Prop where
  rest : ∀ k, 0 < k → k < n → k ≠ j → leA (atA l (parA k)) (atA l k) = true
  over : ∀ k, 0 < k → k < n → parA k = j → 0 < j → leA (atA l (parA j)) (atA l k) = true
theorem UpA.top {l : List Al} {n : Nat} (h : UpA l n 0) : HeapA l n := fun k h0 hk => h.rest k h0 hk (by omega)
theorem UpA.stop {l : List Al} {n j : Nat} (h : UpA l n j) (hl : leA (atA l (parA j)) (atA l j) = true) : HeapA l n := fun k h0 hk => by
  by_cases e : k = j
  · rw [e]; exact hl
  · exact h.rest k h0 hk e
theorem UpA.step {l : List Al} {n j : Nat} (h : UpA l n j) (h0 : 0 < j) (hj : j < n) (hn : n ≤ l.length) (hl : ltA (atA l j) (atA l (parA j)) = true) : UpA (swA l (parA j) j) n (parA j) := by
  have hp := par_lt h0
  have A := sw_at (l := l) (i := parA j) (j := j) (by omega) (by omega)
  have hle := lt_le hl
  refine ⟨fun k k0 kn kne => ?_, fun k k0 kn kp i0 => ?_⟩
  · have kp := par_lt k0
    by_cases e : k = j
    · rw [e, A (parA j), A j, if_pos rfl, if_neg (by omega), if_pos rfl]
      exact hle
    · by_cases e2 : parA k = parA j
      · rw [e2, A (parA j), A k, if_neg (by omega), if_pos rfl, if_neg (fun q => e q.symm), if_neg (fun q => kne q.symm)]
        refine leA_trans _ _ _ hle ?_
        have := h.rest k k0 kn e
        rwa [e2] at this
      · by_cases e3 : parA k = j
        · rw [e3, A j, A k, if_pos rfl, if_neg (fun q => e q.symm), if_neg (fun q => kne q.symm)]
          exact h.over k k0 kn e3 h0
        · rw [A (parA k), A k, if_neg (fun q => e3 q.symm), if_neg (fun q => e2 q.symm), if_neg (fun q => e q.symm), if_neg (fun q => kne q.symm)]
          exact h.rest k k0 kn e
  · have hpp := par_lt i0
    have e1 := h.rest (parA j) i0 (by omega) (by omega)
    rw [A (parA (parA j)), A k, if_neg (by omega), if_neg (by omega)]
    by_cases e : k = j
    · rw [if_pos e.symm]; exact e1
    · rw [if_neg (fun q => e q.symm), if_neg (by have := par_lt k0; omega)]
      refine leA_trans _ _ _ e1 ?_
      have := h.rest k k0 kn e
      rwa [kp] at this
/-- while an alarm goes down from i0. -/
structure DownA (l0 l : List Al) (n i0 i : Nat) : Prop where
  hole : HoleA l n i
  ge : i0 ≤ i
  moved : i0 < i → leA (atA l (parA i)) (atA l i) = true
  same : i = i0 → l = l0
theorem DownA.start {l : List Al} {n i : Nat} (h : HoleA l n i) : DownA l l n i i := ⟨h, Nat.le_refl _, fun q => by omega, fun _ => rfl⟩
theorem DownA.step {l0 l : List Al} {n i0 i j : Nat} (h : DownA l0 l n i0 i) (hn : n ≤ l.length) (j0 : 0 < j) (hj : j < n) (hp : parA j = i) (hl : ltA (atA l j) (atA l i) = true) (hs : ∀ k, 0 < k → k < n → parA k = i → leA (atA l j) (atA l k) = true) : DownA l0 (swA l i j) n i0 j := by
  have hij : i < j := by rw [← hp]; exact par_lt j0
  have A := sw_at (l := l) (i := i) (j := j) (by omega) (by omega)
  have hle := lt_le hl
  refine ⟨⟨fun k k0 kn kne kp => ?_, fun k k0 kn kp _ => ?_⟩, by have := h.ge; omega, fun _ => ?_, fun e => by have := h.ge; omega⟩
  · have hpk := par_lt k0
    by_cases e : k = i
    · rw [e]
      rw [A (parA i), A i, if_neg (by rw [e] at hpk; omega), if_neg (by rw [e] at hpk; omega), if_neg (by omega), if_pos rfl]
      exact h.hole.over j j0 hj hp (by omega)
    · by_cases e2 : parA k = i
      · rw [e2, A i, A k, if_neg (by omega), if_pos rfl, if_neg (fun q => kne q.symm), if_neg (fun q => e q.symm)]
        exact hs k k0 kn e2
      · rw [A (parA k), A k, if_neg (fun q => kp q.symm), if_neg (fun q => e2 q.symm), if_neg (fun q => kne q.symm), if_neg (fun q => e q.symm)]
        exact h.hole.rest k k0 kn e e2
  · have hpk := par_lt k0
    rw [hp, A i, A k, if_neg (by omega), if_pos rfl, if_neg (by omega), if_neg (by omega)]
    have := h.hole.rest k k0 kn (by omega) (by omega)
    rwa [kp] at this
  · rw [hp, A i, A j, if_neg (by omega), if_pos rfl, if_pos rfl]
    exact hle
theorem DownA.stop {l0 l : List Al} {n i0 i : Nat} (h : DownA l0 l n i0 i) (hs : ∀ k, 0 < k → k < n → parA k = i → leA (atA l i) (atA l k) = true) : (i0 < i → HeapA l n) ∧ (i = i0 → l = l0 ∧ UpA l0 n i0) := by
  refine ⟨fun hi k k0 kn => ?_, fun e => ?_⟩
  · by_cases e : k = i
    · rw [e]; exact h.moved hi
    · by_cases e2 : parA k = i
      · rw [e2]; exact hs k k0 kn e2
      · exact h.hole.rest k k0 kn e e2
  · have hl := h.same e
    subst hl
    subst e
    refine ⟨rfl, fun k k0 kn kne => ?_, fun k k0 kn kp i0 => h.hole.over k k0 kn kp i0⟩
    by_cases e2 : parA k = i
    · rw [e2]; exact hs k k0 kn e2
    · exact h.hole.rest k k0 kn kne e2
/-- in a heap the first one is not behind any other. -/
theorem HeapA.first {l : List Al} {n : Nat} (h : HeapA l n) : ∀ k, k < n → leA (atA l 0) (atA l k) = true := by
  intro k
  induction k using Nat.strongRecOn with
  | _ k ih =>
    intro hk
    rcases Nat.eq_zero_or_pos k with e | k0
    · subst e; rw [leA_iff]; omega
    · have hp := par_lt k0
      exact leA_trans _ _ _ (ih _ hp (by omega)) (h k k0 hk)
/-- whoever is put at a place of a heap leaves it in order but there. -/
theorem HeapA.hole {l : List Al} {n : Nat} (h : HeapA l n) {i : Nat} (hi : i < l.length) (a : Al) {m : Nat} (hm : m ≤ n) : HoleA (l.set i a) m i := by
  have A := atA_set hi a
  refine ⟨fun k k0 kn kne kp => ?_, fun k k0 kn kp i0 => ?_⟩
  · rw [A (parA k), A k, if_neg (fun q => kp q.symm), if_neg (fun q => kne q.symm)]
    exact h k k0 (by omega)
  · have h1 := par_lt k0
    have h2 := par_lt i0
    rw [A (parA i), A k, if_neg (by omega), if_neg (by omega)]
    refine leA_trans _ _ _ (h i i0 (by omega)) ?_
    have := h k k0 (by omega)
    rwa [kp] at this
/-- the same of one that is put at a heap's end. -/
theorem HeapA.snoc {l : List Al} (h : HeapA l l.length) (a : Al) : UpA (l ++ [a]) (l.length + 1) l.length := by
  have A : ∀ k, k < l.length → atA (l ++ [a]) k = atA l k := fun k hk => by
    unfold atA
    rw [List.getD_eq_getElem?_getD, List.getD_eq_getElem?_getD, List.getElem?_append_left hk]
  refine ⟨fun k k0 kn kne => ?_, fun k k0 kn kp i0 => ?_⟩
  · have := par_lt k0
    rw [A _ (by omega), A _ (by omega)]
    exact h k k0 (by omega)
  · have := par_lt k0
    omega
/-- a heap's two places are changed, the later one no longer counts: in order but at the former. -/
theorem HeapA.swap {l : List Al} {n : Nat} (h : HeapA l (n + 1)) (hn : n < l.length) {i : Nat} (hi : i ≤ n) : HoleA (swA l i n) n i := by
  have A := sw_at (l := l) (i := i) (j := n) (by omega) hn
  refine ⟨fun k k0 kn kne kp => ?_, fun k k0 kn kp i0 => ?_⟩
  · have h1 := par_lt k0
    rw [A (parA k), A k, if_neg (by omega), if_neg (fun q => kp q.symm), if_neg (by omega), if_neg (fun q => kne q.symm)]
    exact h k k0 (by omega)
  · have h1 := par_lt k0
    have h2 := par_lt i0
    rw [A (parA i), A k, if_neg (by omega), if_neg (by omega), if_neg (by omega), if_neg (by omega)]
    refine leA_trans _ _ _ (h i i0 (by omega)) ?_
    have := h k k0 (by omega)
    rwa [kp] at this
theorem HeapA.less {l : List Al} {n m : Nat} (h : HeapA l n) (hm : m ≤ n) : HeapA l m := fun k k0 km => h k k0 (by omega)
theorem HeapA.cut {l : List Al} {n m : Nat} (h : HeapA l n) (hm : n ≤ m) : HeapA (l.take m) n := fun k k0 kn => by
  have A : ∀ j, j < m → atA (l.take m) j = atA l j := fun j hj => by
    unfold atA
    rw [List.getD_eq_getElem?_getD, List.getD_eq_getElem?_getD, List.getElem?_take, if_pos hj]
  have := par_lt k0
  rw [A _ (by omega), A _ (by omega)]
  exact h k k0 kn
/-- the same alarms, the later places as they were. -/
structure OrdA (n : Nat) (l l' : List Al) : Prop where
  perm : l'.Perm l
  len : l'.length = l.length
  tail : ∀ k, n ≤ k → atA l' k = atA l k
theorem OrdA.refl (n : Nat) (l : List Al) : OrdA n l l := ⟨List.Perm.refl _, rfl, fun _ _ => rfl⟩
theorem OrdA.swap {n : Nat} {l l' : List Al} (h : OrdA n l l') {i j : Nat} (hi : i < n) (hj : j < n) (hn : n ≤ l.length) : OrdA n l (swA l' i j) := by
  have hl := h.len
  refine ⟨(sw_perm (by omega) (by omega)).trans h.perm, by rw [sw_len]; exact hl, fun k hk => ?_⟩
  rw [sw_at (by omega) (by omega), if_neg (by omega), if_neg (by omega)]
  exact h.tail k hk
theorem OrdA.trans {n : Nat} {l l' l'' : List Al} (h : OrdA n l l') (h' : OrdA n l' l'') : OrdA n l l'' := ⟨h'.perm.trans h.perm, h'.len.trans h.len, fun k hk => (h'.tail k hk).trans (h.tail k hk)⟩
end Go.Proofs.Ytebmomanpkmloaa
