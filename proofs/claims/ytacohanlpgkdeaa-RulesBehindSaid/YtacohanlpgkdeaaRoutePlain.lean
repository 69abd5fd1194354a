/- Routes: plain mathematics. -/
import Derived.Test.YtacohanlpgkdeaaRows
namespace Go.Proofs.Ytacohanlpgkdeaa
set_option linter.unusedVariables false

structure Rt where
  net : Int
  bits : Int
  zone : Int
  mtu : Int
abbrev rt0 : Rt := ⟨0, 0, 0, 0⟩
abbrev rtN : Rt := ⟨0, -1, 0, 0⟩
structure RngRt (r : Rt) : Prop where
  net : 0 ≤ r.net ∧ r.net ≤ 4294967295
def powR (b : Int) : Int := 2 ^ (32 - b).toNat
theorem powR_pos (b : Int) : 0 < powR b := Int.pow_pos (by decide)
def inN (addr net bits : Int) : Bool := decide (0 ≤ bits) && (decide (bits ≤ 32) && addr / powR bits == net / powR bits)
def okR (r : Rt) : Bool := (decide (0 ≤ r.bits) && decide (r.bits ≤ 32)) && ((decide (0 ≤ r.zone) && decide (r.zone ≤ 7)) && ((decide (68 ≤ r.mtu) && decide (r.mtu ≤ 65535)) && r.net % powR r.bits == 0))
def sameN (a b : Rt) : Bool := a.net == b.net && a.bits == b.bits
def atR (l : List Rt) (i : Nat) : Rt := l.getD i rt0
def newAt (l : List Rt) (i : Nat) : Bool := (List.range i).all fun k => !sameN (atR l k) (atR l i)
def okAt (l : List Rt) (i : Nat) : Bool := decide (i < 64) && (okR (atR l i) && newAt l i)
def rightR (l : List Rt) : Bool := (List.range l.length).all (okAt l)
def stepR (addr : Int) (b r : Rt) : Rt := if decide (b.bits < r.bits) && inN addr r.net r.bits then r else b
def bestR (l : List Rt) (addr : Int) : Rt := l.foldl (stepR addr) rtN
def findR (l : List Rt) (addr : Int) : Rt × Bool := if rightR l && decide (0 ≤ (bestR l addr).bits) then (bestR l addr, true) else (rt0, false)
def zoneR (l : List Rt) (addr : Int) : Int := if (findR l addr).2 then (findR l addr).1.zone else -1
theorem atR_get {l : List Rt} {i : Nat} (h : i < l.length) : atR l i = l[i] := by unfold atR; rw [List.getD_eq_getElem?_getD, List.getElem?_eq_getElem h]; rfl
theorem inN_iff (addr net bits : Int) : inN addr net bits = true ↔ 0 ≤ bits ∧ bits ≤ 32 ∧ addr / powR bits = net / powR bits := by
  unfold inN
  simp only [Bool.and_eq_true, decide_eq_true_eq, beq_iff_eq]
theorem okR_iff (r : Rt) : okR r = true ↔ (0 ≤ r.bits ∧ r.bits ≤ 32) ∧ (0 ≤ r.zone ∧ r.zone ≤ 7) ∧ (68 ≤ r.mtu ∧ r.mtu ≤ 65535) ∧ r.net % powR r.bits = 0 := by
  unfold okR
  simp only [Bool.and_eq_true, decide_eq_true_eq, beq_iff_eq]
theorem sameN_iff (a b : Rt) : sameN a b = true ↔ a.net = b.net ∧ a.bits = b.bits := by
  unfold sameN
  simp only [Bool.and_eq_true, beq_iff_eq]
structure RightR (l : List Rt) : Prop where
  few : l.length ≤ 64
  ok : ∀ r ∈ l, okR r = true
  once : l.Pairwise (fun a b => sameN a b = false)
theorem rightR_iff (l : List Rt) : rightR l = true ↔ RightR l := by
  unfold rightR
  rw [List.all_eq_true]
  constructor
  · intro h
    have h' : ∀ i, i < l.length → i < 64 ∧ okR (atR l i) = true ∧ newAt l i = true := fun i hi => by
      have := h i (List.mem_range.2 hi)
      unfold okAt at this
      simpa [Bool.and_eq_true] using this
    refine ⟨?_, fun r hr => ?_, List.pairwise_iff_getElem.2 fun i j hi hj hij => ?_⟩
    · rcases Nat.lt_or_ge 64 l.length with q | q
      · have := (h' 64 q).1; omega
      · exact q
    · obtain ⟨i, hi, rfl⟩ := List.getElem_of_mem hr
      have := (h' i hi).2.1
      rwa [atR_get hi] at this
    · have := (h' j hj).2.2
      unfold newAt at this
      rw [List.all_eq_true] at this
      have := this i (List.mem_range.2 hij)
      rw [atR_get hi, atR_get hj] at this
      simpa using this
  · rintro ⟨h1, h2, h3⟩ i hi
    rw [List.mem_range] at hi
    unfold okAt
    rw [Bool.and_eq_true, Bool.and_eq_true, decide_eq_true_eq]
    refine ⟨by omega, by rw [atR_get hi]; exact h2 _ (List.getElem_mem hi), ?_⟩
    unfold newAt
    rw [List.all_eq_true]
    intro k hk
    rw [List.mem_range] at hk
    rw [atR_get (show k < l.length by omega), atR_get hi, List.pairwise_iff_getElem.1 h3 k i (by omega) hi hk]
    rfl
/-- the best one so far. -/
structure BestR (l : List Rt) (addr : Int) (b : Rt) : Prop where
  from_ : b = rtN ∨ (b ∈ l ∧ inN addr b.net b.bits = true)
  most : ∀ r ∈ l, inN addr r.net r.bits = true → r.bits ≤ b.bits
theorem BestR.step {l : List Rt} {addr : Int} {b : Rt} (h : BestR l addr b) (r : Rt) : BestR (l ++ [r]) addr (stepR addr b r) := by
  unfold stepR
  by_cases hc : (decide (b.bits < r.bits) && inN addr r.net r.bits) = true
  · rw [if_pos hc]
    rw [Bool.and_eq_true, decide_eq_true_eq] at hc
    refine ⟨.inr ⟨by simp, hc.2⟩, fun x hx hi => ?_⟩
    rcases List.mem_append.1 hx with hx | hx
    · have := h.most x hx hi; omega
    · rw [List.mem_singleton.1 hx]; exact Int.le_refl _
  · rw [if_neg hc]
    refine ⟨h.from_.imp id (fun q => ⟨List.mem_append_left _ q.1, q.2⟩), fun x hx hi => ?_⟩
    rcases List.mem_append.1 hx with hx | hx
    · exact h.most x hx hi
    · rw [List.mem_singleton.1 hx] at hi ⊢
      rcases Int.lt_or_le b.bits r.bits with q | q
      · rw [decide_eq_true q, hi] at hc; simp at hc
      · exact q
theorem bestR_snoc (l : List Rt) (r : Rt) (addr : Int) : bestR (l ++ [r]) addr = stepR addr (bestR l addr) r := by
  unfold bestR
  rw [List.foldl_append]
  rfl
theorem bestR_is (l : List Rt) (addr : Int) : BestR l addr (bestR l addr) := by
  have : ∀ n, BestR (l.take n) addr (bestR (l.take n) addr) := fun n => by
    induction n with
    | zero => exact ⟨.inl rfl, fun r h => by cases h⟩
    | succ n ih =>
      rcases Nat.lt_or_ge n l.length with h | h
      · rw [← List.take_append_getElem h, bestR_snoc]
        exact ih.step _
      · rw [List.take_of_length_le (by omega)] at ih ⊢
        exact ih
  have h := this l.length
  rwa [List.take_length] at h
theorem in_bits {addr net bits : Int} (h : inN addr net bits = true) : 0 ≤ bits := ((inN_iff _ _ _).1 h).1
/-- what Find answers. -/
theorem find_yes {l : List Rt} {addr : Int} {r : Rt} (h : findR l addr = (r, true)) : RightR l ∧ r ∈ l ∧ inN addr r.net r.bits = true ∧ ∀ x ∈ l, inN addr x.net x.bits = true → x.bits ≤ r.bits := by
  unfold findR at h
  by_cases hc : (rightR l && decide (0 ≤ (bestR l addr).bits)) = true
  · rw [if_pos hc] at h
    injection h with h _
    rw [Bool.and_eq_true, decide_eq_true_eq] at hc
    have b := bestR_is l addr
    rw [h] at b hc
    have hm := b.from_.resolve_left (fun e => by rw [e] at hc; simp at hc)
    exact ⟨(rightR_iff l).1 hc.1, hm.1, hm.2, b.most⟩
  · rw [if_neg hc] at h
    cases h
theorem find_no {l : List Rt} {addr : Int} {r : Rt} (h : findR l addr = (r, false)) : r = rt0 ∧ (RightR l → ∀ x ∈ l, inN addr x.net x.bits = false) := by
  unfold findR at h
  by_cases hc : (rightR l && decide (0 ≤ (bestR l addr).bits)) = true
  · rw [if_pos hc] at h
    cases h
  · rw [if_neg hc] at h
    injection h with h _
    refine ⟨h.symm, fun hr x hx => ?_⟩
    cases hi : inN addr x.net x.bits
    · rfl
    · have h1 := (bestR_is l addr).most x hx hi
      have h2 := in_bits hi
      rw [(rightR_iff l).2 hr, decide_eq_true (show 0 ≤ (bestR l addr).bits by omega)] at hc
      simp at hc
theorem find_wrong {l : List Rt} {addr : Int} (h : ¬ RightR l) : findR l addr = (rt0, false) := by
  unfold findR
  have : rightR l = false := by
    cases hr : rightR l
    · rfl
    · exact absurd ((rightR_iff l).1 hr) h
  rw [this, if_neg (by simp)]
/-- nets of as many bits that both have an address are one. -/
theorem in_same {addr : Int} {a b : Rt} (ha : okR a = true) (hb : okR b = true) (h1 : inN addr a.net a.bits = true) (h2 : inN addr b.net b.bits = true) (e : a.bits = b.bits) : sameN a b = true := by
  rw [sameN_iff]
  refine ⟨?_, e⟩
  have q1 := ((inN_iff _ _ _).1 h1).2.2
  have q2 := ((inN_iff _ _ _).1 h2).2.2
  have m1 := ((okR_iff a).1 ha).2.2.2
  have m2 := ((okR_iff b).1 hb).2.2.2
  rw [e] at q1 m1
  have d1 := Int.mul_ediv_add_emod a.net (powR b.bits)
  have d2 := Int.mul_ediv_add_emod b.net (powR b.bits)
  rw [m1, ← q1] at d1
  rw [m2, ← q2] at d2
  omega
/-- in a right list the best one is alone. -/
theorem RightR.same {l : List Rt} (h : RightR l) {a b : Rt} (ha : a ∈ l) (hb : b ∈ l) (e : sameN a b = true) : a = b := by
  obtain ⟨i, hi, rfl⟩ := List.getElem_of_mem ha
  obtain ⟨j, hj, rfl⟩ := List.getElem_of_mem hb
  rcases Nat.lt_trichotomy i j with q | q | q
  · rw [List.pairwise_iff_getElem.1 h.once i j hi hj q] at e; cases e
  · subst q; rfl
  · have := List.pairwise_iff_getElem.1 h.once j i hj hi q
    rw [sameN_iff] at e
    rw [(sameN_iff _ _).2 ⟨e.1.symm, e.2.symm⟩] at this
    cases this
theorem find_is {l : List Rt} (h : RightR l) {addr : Int} {r : Rt} (hr : r ∈ l) (hi : inN addr r.net r.bits = true) (hm : ∀ x ∈ l, inN addr x.net x.bits = true → x.bits ≤ r.bits) : findR l addr = (r, true) := by
  cases hf : findR l addr with
  | mk x o =>
    cases o
    · have := (find_no hf).2 h r hr
      rw [hi] at this
      cases this
    · obtain ⟨_, h1, h2, h3⟩ := find_yes hf
      have h4 := hm x h1 h2
      have h5 := h3 r hr hi
      rw [h.same h1 hr (in_same (h.ok _ h1) (h.ok _ hr) h2 hi (by omega))]
theorem find_isnt {l : List Rt} {addr : Int} (hn : ∀ x ∈ l, inN addr x.net x.bits = false) : findR l addr = (rt0, false) := by
  cases hf : findR l addr with
  | mk x o =>
    cases o
    · rw [(find_no hf).1]
    · obtain ⟨_, h1, h2, _⟩ := find_yes hf
      rw [hn x h1] at h2
      cases h2
theorem RightR.perm {l l' : List Rt} (h : RightR l) (p : l'.Perm l) : RightR l' :=
  ⟨by rw [p.length_eq]; exact h.few, fun r hr => h.ok r (p.mem_iff.1 hr), (p.pairwise_iff (fun {a b} hs => by
    cases hb : sameN b a
    · rfl
    · rw [sameN_iff] at hb
      rw [(sameN_iff _ _).2 ⟨hb.1.symm, hb.2.symm⟩] at hs
      cases hs)).2 h.once⟩
/-- the order of routes doesn't matter. -/
theorem find_permR {l l' : List Rt} (h : RightR l) (p : l'.Perm l) (addr : Int) : findR l' addr = findR l addr := by
  cases hf : findR l addr with
  | mk x o =>
    cases o
    · obtain ⟨e, hn⟩ := find_no hf
      rw [e]
      exact find_isnt fun y hy => hn h y (p.mem_iff.1 hy)
    · obtain ⟨_, h1, h2, h3⟩ := find_yes hf
      exact find_is (h.perm p) (p.mem_iff.2 h1) h2 fun y hy => h3 y (p.mem_iff.1 hy)
/-- one more changes the way of no address but those in its net. -/
theorem find_more {l : List Rt} {m : Rt} (h : RightR (l ++ [m])) (addr : Int) : (findR (l ++ [m]) addr = (m, true) ∧ inN addr m.net m.bits = true) ∨ findR (l ++ [m]) addr = findR l addr := by
  have hl : RightR l := ⟨by have := h.few; rw [List.length_append] at this; omega, fun r hr => h.ok r (List.mem_append_left _ hr), (List.pairwise_append.1 h.once).1⟩
  cases hf : findR (l ++ [m]) addr with
  | mk x o =>
    cases o
    · obtain ⟨e, hn⟩ := find_no hf
      rw [e]
      exact .inr (find_isnt fun y hy => hn h y (List.mem_append_left _ hy)).symm
    · obtain ⟨_, h1, h2, h3⟩ := find_yes hf
      rcases List.mem_append.1 h1 with h1 | h1
      · exact .inr (find_is hl h1 h2 fun y hy => h3 y (List.mem_append_left _ hy)).symm
      · rw [List.mem_singleton.1 h1] at h2 ⊢
        exact .inl ⟨rfl, h2⟩
theorem rightR_more {l : List Rt} {m : Rt} (h : RightR (l ++ [m])) : RightR l := ⟨by have := h.few; rw [List.length_append] at this; omega, fun r hr => h.ok r (List.mem_append_left _ hr), (List.pairwise_append.1 h.once).1⟩
/-! nets. -/
theorem powR_32 : powR 32 = 1 := rfl
theorem powR_0 : powR 0 = 4294967296 := by decide
theorem in_none {addr net : Int} (h1 : 0 ≤ addr ∧ addr ≤ 4294967295) (h2 : 0 ≤ net ∧ net ≤ 4294967295) : inN addr net 0 = true := by
  rw [inN_iff, powR_0]
  omega
theorem in_all (addr net : Int) : inN addr net 32 = (addr == net) := by
  unfold inN
  rw [powR_32, Int.ediv_one, Int.ediv_one]
  rfl
theorem in_33 (addr net : Int) : inN addr net 33 = false := by
  unfold inN
  rfl
theorem in_turn (addr net bits : Int) : inN net addr bits = inN addr net bits := by
  rw [Bool.eq_iff_iff, inN_iff, inN_iff]
  constructor
  · rintro ⟨a, b, c⟩; exact ⟨a, b, c.symm⟩
  · rintro ⟨a, b, c⟩; exact ⟨a, b, c.symm⟩
theorem in_fewer {addr net n m : Int} (h : inN addr net n = true) (h0 : 0 ≤ m) (hm : m ≤ n) : inN addr net m = true := by
  rw [inN_iff] at h ⊢
  obtain ⟨a, b, c⟩ := h
  refine ⟨h0, by omega, ?_⟩
  have e : powR m = powR n * 2 ^ (n - m).toNat := by
    unfold powR
    rw [← Int.pow_add]
    congr 1
    omega
  rw [e, ← Int.ediv_ediv_of_nonneg (Int.le_of_lt (powR_pos n)), ← Int.ediv_ediv_of_nonneg (Int.le_of_lt (powR_pos n)), c]
end Go.Proofs.Ytacohanlpgkdeaa
