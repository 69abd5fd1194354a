/- Lemmas, several texts in one. -/
import Derived.Test.YtofpalmghdapkaaQ01
import Derived.Laws.Bits
import Derived.Test.YtofpalmghdapkaaRows
import Derived.Deep.MidRow
import Derived.Deep.WholeRow
import Derived.WalkKit
import Derived.ProofKit
import Derived.Deep.RegionHeld3
import Derived.Deep.DeepCutAuto
/- Options that are asked one by one, by the bytes at a place: plain mathematics. -/
namespace Go.Proofs.Ytofpalmghdapkaa
open Go.RowKit
set_option linter.unusedVariables false

theorem pOpts_end (f : Nat) (l : List UInt8) (p : Nat) (acc : List Op) (h : l.length ≤ p) : pOpts f (l.drop p) acc = some acc := by
  rw [List.drop_of_length_le h]; cases f <;> rfl
theorem pOpts_zero (f : Nat) (l : List UInt8) (p : Nat) (acc : List Op) (h : p < l.length) (h0 : g8 l p = 0) : pOpts (f + 1) (l.drop p) acc = some acc := by
  rw [g8_at l p h] at h0
  have e : l[p] = 0 := UInt8.toNat_inj.1 (by simp; omega)
  cases hd : l.drop (p + 1) with
  | nil => rw [List.drop_eq_getElem_cons h, hd, e, pOpts, if_pos rfl]
  | cons n r => rw [List.drop_eq_getElem_cons h, hd, e, pOpts, if_pos rfl]
theorem pOpts_one (f : Nat) (l : List UInt8) (p : Nat) (acc : List Op) (h : p < l.length) (h1 : g8 l p = 1) : pOpts (f + 1) (l.drop p) acc = pOpts f (l.drop (p + 1)) acc := by
  rw [g8_at l p h] at h1
  have e : l[p] = 1 := UInt8.toNat_inj.1 (by simp; omega)
  cases hd : l.drop (p + 1) with
  | nil => rw [List.drop_eq_getElem_cons h, hd, e, pOpts, if_neg (by decide), if_pos rfl]
  | cons n r => rw [List.drop_eq_getElem_cons h, hd, e, pOpts, if_neg (by decide), if_pos rfl]
theorem pOpts_bad (f : Nat) (l : List UInt8) (p : Nat) (acc : List Op) (h : p < l.length) (h0 : g8 l p ≠ 0) (h1 : g8 l p ≠ 1) (hb : l.length ≤ p + 1 ∨ g8 l (p + 1) < 2 ∨ (l.length : Int) < p + g8 l (p + 1)) : pOpts (f + 1) (l.drop p) acc = none := by
  rw [g8_at l p h] at h0 h1
  have e0 : ¬ l[p] = 0 := fun e => h0 (by rw [e]; rfl)
  have e1 : ¬ l[p] = 1 := fun e => h1 (by rw [e]; rfl)
  rw [List.drop_eq_getElem_cons h]
  by_cases hl : p + 1 < l.length
  · rw [List.drop_eq_getElem_cons hl, pOpts, if_neg e0, if_neg e1]
    rw [g8_at l (p + 1) hl] at hb
    rw [if_pos]
    rw [List.length_drop]
    rcases hb with hb | hb | hb
    · omega
    · left; omega
    · by_cases h2 : (l[p + 1]).toNat < 2
      · left; exact h2
      · right; omega
  · rw [List.drop_of_length_le (by omega), pOpts, if_neg e0, if_neg e1]
theorem pOpts_step (f : Nat) (l : List UInt8) (p : Nat) (acc : List Op) (n : Nat) (hn : (n : Int) = g8 l (p + 1)) (h : p + 1 < l.length) (h0 : g8 l p ≠ 0) (h1 : g8 l p ≠ 1) (h2 : 2 ≤ n) (h3 : p + n ≤ l.length) :
    pOpts (f + 1) (l.drop p) acc = if rightB (acc ++ [⟨g8 l p, (l.take (p + n)).drop (p + 2)⟩]) then pOpts f (l.drop (p + n)) (acc ++ [⟨g8 l p, (l.take (p + n)).drop (p + 2)⟩]) else none := by
  rw [g8_at l (p + 1) h] at hn
  have hk := g8_at l p (by omega)
  rw [hk] at h0 h1 ⊢
  have e0 : ¬ l[p] = 0 := fun e => h0 (by rw [e]; rfl)
  have e1 : ¬ l[p] = 1 := fun e => h1 (by rw [e]; rfl)
  have hn' : l[p + 1].toNat = n := by omega
  rw [List.drop_eq_getElem_cons (show p < l.length by omega), List.drop_eq_getElem_cons h, pOpts, if_neg e0, if_neg e1]
  rw [hn', if_neg (by rw [List.length_drop]; omega)]
  have d1 : (l.drop (p + 1 + 1)).drop (n - 2) = l.drop (p + n) := by rw [List.drop_drop]; congr 1; omega
  have d2 : (l.drop (p + 1 + 1)).take (n - 2) = (l.take (p + n)).drop (p + 2) := by rw [List.drop_take]; congr 1; omega
  rw [d1, d2]
end Go.Proofs.Ytofpalmghdapkaa

/- Tuples: who speaks to whom: plain mathematics. -/
namespace Go.Proofs.Ytofpalmghdapkaa
open Go.RowKit
set_option linter.unusedVariables false

structure Tp where
  proto : Int
  src : Int
  sport : Int
  dst : Int
  dport : Int
abbrev tp0 : Tp := ⟨0, 0, 0, 0, 0⟩
def sameTp (a b : Tp) : Bool := a.proto == b.proto && (a.src == b.src && (a.sport == b.sport && (a.dst == b.dst && a.dport == b.dport)))
theorem sameTp_iff (a b : Tp) : sameTp a b = true ↔ a = b := by cases a; cases b; simp [sameTp]
/-- what a tuple's numbers may be in memory. -/
structure RngTp (t : Tp) : Prop where
  s0 : 0 ≤ t.src
  s1 : t.src ≤ 4294967295
  d0 : 0 ≤ t.dst
  d1 : t.dst ≤ 4294967295
def turnT (t : Tp) : Tp := ⟨t.proto, t.dst, t.dport, t.src, t.sport⟩
theorem turn_turn (t : Tp) : turnT (turnT t) = t := rfl
def inT (n m : Int) : Bool := decide (0 ≤ n) && decide (n < m)
def rightT (t : Tp) : Bool := inT t.proto 256 && (inT t.sport 65536 && inT t.dport 65536)
theorem rightT_iff (t : Tp) : rightT t = true ↔ (0 ≤ t.proto ∧ t.proto < 256) ∧ (0 ≤ t.sport ∧ t.sport < 65536) ∧ (0 ≤ t.dport ∧ t.dport < 65536) := by simp [rightT, inT]
theorem right_turn (t : Tp) : rightT (turnT t) = rightT t := by
  rw [Bool.eq_iff_iff, rightT_iff, rightT_iff]
  unfold turnT
  dsimp only
  omega
theorem turn_same (t : Tp) : turnT t = t ↔ t.src = t.dst ∧ t.sport = t.dport := by
  cases t
  simp [turnT]
  omega
/-- the numbers of a tuple, as its bytes have them, the weightiest first. -/
def numsT (t : Tp) : List Int := [t.proto % 256, t.src, t.sport % 65536, t.dst, t.dport % 65536]
def lessL : List Int → List Int → Bool
  | a :: x, b :: y => if a = b then lessL x y else decide (a < b)
  | _, _ => false
def lessT (a b : Tp) : Bool := lessL (numsT a) (numsT b)
theorem lessL_irr : ∀ x : List Int, lessL x x = false
  | [] => rfl
  | a :: x => by rw [lessL, if_pos rfl]; exact lessL_irr x
theorem lessL_asym : ∀ x y : List Int, lessL x y = true → lessL y x = false
  | [], [], h => by cases h
  | [], _ :: _, h => by cases h
  | _ :: _, [], h => by cases h
  | a :: x, b :: y, h => by
    rw [lessL] at h ⊢
    split at h
    · rename_i e; rw [if_pos e.symm]; exact lessL_asym x y h
    · rename_i e
      rw [if_neg (fun e' => e e'.symm)]
      simp at h ⊢
      omega
theorem lessL_total : ∀ x y : List Int, x.length = y.length → x ≠ y → lessL x y = true ∨ lessL y x = true
  | [], [], _, h => absurd rfl h
  | [], _ :: _, h, _ => by cases h
  | _ :: _, [], h, _ => by cases h
  | a :: x, b :: y, hl, h => by
    rw [lessL, lessL]
    by_cases e : a = b
    · rw [if_pos e, if_pos e.symm]
      exact lessL_total x y (by simpa using hl) (fun h' => h (by rw [e, h']))
    · rw [if_neg e, if_neg (fun e' => e e'.symm)]
      simp only [decide_eq_true_eq]
      omega
theorem lessL_trans : ∀ x y z : List Int, lessL x y = true → lessL y z = true → lessL x z = true
  | [], _, _, h, _ => by cases h
  | _ :: _, [], _, h, _ => by cases h
  | _ :: _, _ :: _, [], _, h => by cases h
  | a :: x, b :: y, c :: z, h1, h2 => by
    rw [lessL] at h1 h2 ⊢
    by_cases e1 : a = b
    · rw [if_pos e1] at h1
      by_cases e2 : b = c
      · rw [if_pos e2] at h2
        rw [if_pos (e1.trans e2)]
        exact lessL_trans x y z h1 h2
      · rw [if_neg e2] at h2
        rw [if_neg (fun e => e2 (e1 ▸ e)), e1]
        exact h2
    · rw [if_neg e1] at h1
      by_cases e2 : b = c
      · rw [if_neg (fun e => e1 (e.trans e2.symm)), ← e2]
        exact h1
      · rw [if_neg e2] at h2
        simp only [decide_eq_true_eq] at h1 h2
        rw [if_neg (by omega)]
        simp only [decide_eq_true_eq]
        omega
/-- right tuples whose numbers are the same are the same. -/
theorem nums_right {a b : Tp} (ha : rightT a = true) (hb : rightT b = true) (h : numsT a = numsT b) : a = b := by
  rw [rightT_iff] at ha hb
  cases a
  cases b
  simp [numsT] at h
  dsimp only at ha hb
  simp only [Tp.mk.injEq]
  omega
theorem order_two {a b : Tp} (ha : rightT a = true) (hb : rightT b = true) : (lessT a b && lessT b a) = false ∧ (lessT a b || lessT b a) = !sameTp a b := by
  unfold lessT
  by_cases h : a = b
  · subst h
    rw [lessL_irr, (sameTp_iff a a).2 rfl]
    exact ⟨rfl, rfl⟩
  · have hs : sameTp a b = false := by
      cases hq : sameTp a b
      · rfl
      · exact absurd ((sameTp_iff a b).1 hq) h
    rw [hs]
    rcases lessL_total (numsT a) (numsT b) rfl (fun e => h (nums_right ha hb e)) with k | k
    · rw [k, lessL_asym _ _ k]; exact ⟨rfl, rfl⟩
    · rw [k, lessL_asym _ _ k]; exact ⟨rfl, rfl⟩
theorem order_three {a b c : Tp} (h1 : lessT a b = true) (h2 : lessT b c = true) : lessT a c = true := lessL_trans _ _ _ h1 h2
/-- a byte into the hash. -/
def hashS (h c : Int) : Int := (bits .xor .u32 h c * 16777619) % 4294967296
def hashL (h : Int) (l : List Int) : Int := l.foldl hashS h
/-- the bytes of a tuple. -/
def bytesT (t : Tp) : List Int := [t.proto % 256, t.src / 16777216, t.src / 65536 % 256, t.src / 256 % 256, t.src % 256, t.sport % 65536 / 256, t.sport % 256,
  t.dst / 16777216, t.dst / 65536 % 256, t.dst / 256 % 256, t.dst % 256, t.dport % 65536 / 256, t.dport % 256]
def hashT (t : Tp) (seed : Int) : Int := hashL (bits .xor .u32 2166136261 seed) (bytesT t)
/-- what asks or answers. -/
def asksT (k : Int) : Bool := k == 0 || (k == 8 || (k == 13 || k == 14))
def ofP (p : Pk) : Tp × Int :=
  if p.mf = true ∨ p.off ≠ 0 then (tp0, 7)
  else if p.proto = 6 then (if (prsT p.src p.dst p.body).1 = 0 then (⟨p.proto, p.src, (prsT p.src p.dst p.body).2.sport, p.dst, (prsT p.src p.dst p.body).2.dport⟩, 0) else (tp0, (prsT p.src p.dst p.body).1))
  else if p.proto = 17 then (if (prsU p.src p.dst p.body).1 = 0 then (⟨p.proto, p.src, (prsU p.src p.dst p.body).2.sport, p.dst, (prsU p.src p.dst p.body).2.dport⟩, 0) else (tp0, (prsU p.src p.dst p.body).1))
  else if p.proto = 1 then (if (prsI p.body).1 = 0 then (if asksT (prsI p.body).2.type = true then (⟨p.proto, p.src, (prsI p.body).2.rest / 65536, p.dst, (prsI p.body).2.rest / 65536⟩, 0) else (tp0, 9)) else (tp0, (prsI p.body).1))
  else (tp0, 9)
/-- an echo's tuple. -/
theorem of_echo (k code rest src dst : Int) (hk : k = 8 ∨ k = 0) (c0 : 0 ≤ code) (c1 : code ≤ 255) (r0 : 0 ≤ rest) (r1 : rest ≤ 4294967295) :
    ofP ⟨0, 0, false, false, 0, 0, 1, src, dst, [], putI ⟨k, code, rest, []⟩⟩ = (⟨1, src, rest / 65536, dst, rest / 65536⟩, 0) := by
  have h : prsI (putI ⟨k, code, rest, []⟩) = (0, ⟨k, code, rest, []⟩) := prs_putI _ ((mayI_iff _).1 (by unfold mayI inB; dsimp only; rcases hk with rfl | rfl <;> simp <;> omega)) ⟨r0, r1⟩
  unfold ofP
  dsimp only
  rw [if_neg (by simp), if_neg (by decide), if_neg (by decide), if_pos rfl, h]
  dsimp only
  rw [if_pos rfl, if_pos (by rcases hk with rfl | rfl <;> rfl)]
end Go.Proofs.Ytofpalmghdapkaa

/- Wheels of alarms: plain mathematics. -/
namespace Go.Proofs.Ytofpalmghdapkaa
set_option linter.unusedVariables false

structure Al where
  num : Int
  at_ : Int
/-- a wheel as the document has it: its alarms in the order in which they were set. -/
structure Wh where
  list : List Al
  now : Int
abbrev wh0 : Wh := ⟨[], 0⟩
def findH (l : List Al) (n : Int) : Option Nat := l.findIdx? (fun a => a.num == n)
def setH (x : Wh) (n t : Int) : Wh × Int :=
  if n < 0 ∨ n > 2147483647 ∨ t < 0 ∨ t > 1099511627776 then (x, 1)
  else if t ≤ x.now then (x, 14)
  else match findH x.list n with
    | none => if 256 ≤ x.list.length then (x, 8) else (⟨x.list ++ [⟨n, t⟩], x.now⟩, 0)
    | some i => (⟨x.list.take i ++ x.list.drop (i + 1) ++ [⟨n, t⟩], x.now⟩, 0)
def dropH (x : Wh) (n : Int) : Wh × Int := match findH x.list n with
  | none => (x, 9)
  | some i => (⟨x.list.take i ++ x.list.drop (i + 1), x.now⟩, 0)
def whenH (x : Wh) (n : Int) : Int × Bool := match findH x.list n with
  | none => (0, false)
  | some i => ((x.list.getD i ⟨0, 0⟩).at_, true)
def leA (a b : Al) : Bool := decide (a.at_ < b.at_) || (decide (a.at_ = b.at_) && decide (a.num ≤ b.num))
def isDue (now : Int) (a : Al) : Bool := decide (a.at_ ≤ now)
/-- what is due, in its order. -/
def dueA (l : List Al) (now : Int) : List Al := (l.filter (isDue now)).mergeSort leA
def leftA (l : List Al) (now : Int) : List Al := l.filter (fun a => !isDue now a)
def numsA (l : List Al) : List Int := l.map (·.num)
def tickH (x : Wh) (now : Int) : Wh × List Int × Int :=
  if now < x.now ∨ now > 1099511627776 then (x, [], 1) else (⟨leftA x.list now, now⟩, numsA (dueA x.list now), 0)
theorem leA_iff (a b : Al) : leA a b = true ↔ a.at_ < b.at_ ∨ (a.at_ = b.at_ ∧ a.num ≤ b.num) := by simp [leA]
theorem leA_trans (a b c : Al) (h1 : leA a b = true) (h2 : leA b c = true) : leA a c = true := by
  rw [leA_iff] at h1 h2 ⊢
  omega
theorem leA_total (a b : Al) : (leA a b || leA b a) = true := by
  rw [Bool.or_eq_true, leA_iff, leA_iff]
  omega
theorem leA_anti (a b : Al) (h1 : leA a b = true) (h2 : leA b a = true) : a = b := by
  rw [leA_iff] at h1 h2
  cases a; cases b
  dsimp only at h1 h2
  have e1 : ‹Int› = ‹Int› := rfl
  simp only [Al.mk.injEq]
  omega
def SortA (l : List Al) : Prop := l.Pairwise (fun a b => leA a b = true)
theorem due_perm (l : List Al) (now : Int) : (dueA l now).Perm (l.filter (isDue now)) := List.mergeSort_perm _ _
theorem due_sort (l : List Al) (now : Int) : SortA (dueA l now) := List.pairwise_mergeSort leA_trans leA_total _
/-- what is due is known by its alarms and its order. -/
theorem due_is {l d : List Al} {now : Int} (hp : d.Perm (l.filter (isDue now))) (hs : SortA d) : dueA l now = d :=
  List.Perm.eq_of_pairwise (fun a b _ _ h1 h2 => leA_anti a b h1 h2) (due_sort l now) hs ((due_perm l now).trans hp.symm)
theorem due_mem {l : List Al} {now : Int} {a : Al} : a ∈ dueA l now ↔ a ∈ l ∧ a.at_ ≤ now := by
  rw [(due_perm l now).mem_iff, List.mem_filter]
  simp [isDue]
theorem left_mem {l : List Al} {now : Int} {a : Al} : a ∈ leftA l now ↔ a ∈ l ∧ now < a.at_ := by
  unfold leftA
  rw [List.mem_filter]
  simp [isDue]
theorem due_nil {l : List Al} {now : Int} (h : ∀ a ∈ l, now < a.at_) : dueA l now = [] ∧ leftA l now = l := by
  constructor
  · rw [List.eq_nil_iff_forall_not_mem]
    intro a ha
    obtain ⟨h1, h2⟩ := due_mem.1 ha
    have := h a h1
    omega
  · unfold leftA
    rw [List.filter_eq_self]
    intro a ha
    have := h a ha
    simp [isDue]
    omega
theorem due_length (l : List Al) (now : Int) : (dueA l now).length + (leftA l now).length = l.length := by
  rw [(due_perm l now).length_eq]
  unfold leftA
  rw [← List.countP_eq_length_filter, ← List.countP_eq_length_filter]
  have := List.length_eq_countP_add_countP (isDue now) (l := l)
  simpa using this.symm
/-- the least alarm that is due goes first. -/
theorem due_cons {l1 l2 : List Al} {b : Al} {now : Int} (hb : b.at_ ≤ now) (h1 : ∀ a ∈ l1, a.at_ ≤ now → leA b a = true) (h2 : ∀ a ∈ l2, a.at_ ≤ now → leA b a = true) : dueA (l1 ++ b :: l2) now = b :: dueA (l1 ++ l2) now := by
  apply due_is
  · rw [List.filter_append, List.filter_cons, if_pos (by simpa [isDue] using hb)]
    refine ((List.Perm.cons b (due_perm (l1 ++ l2) now)).trans ?_)
    rw [List.filter_append]
    exact List.perm_middle.symm
  · refine List.pairwise_cons.2 ⟨fun a ha => ?_, due_sort _ _⟩
    obtain ⟨hm, ht⟩ := due_mem.1 ha
    rcases List.mem_append.1 hm with hm | hm
    · exact h1 a hm ht
    · exact h2 a hm ht
theorem left_drop {l1 l2 : List Al} {b : Al} {now : Int} (hb : b.at_ ≤ now) : leftA (l1 ++ b :: l2) now = leftA (l1 ++ l2) now := by
  unfold leftA
  rw [List.filter_append, List.filter_append, List.filter_cons, if_neg (by simpa [isDue] using hb)]
/-- two ticks. -/
theorem due_two (l : List Al) {f g : Int} (h : f ≤ g) : dueA l g = dueA l f ++ dueA (leftA l f) g := by
  apply due_is
  · refine (List.Perm.append (due_perm l f) (due_perm (leftA l f) g)).trans ?_
    unfold leftA
    rw [List.filter_filter]
    have e1 : (l.filter (isDue f)) = (l.filter (isDue g)).filter (isDue f) := by
      rw [List.filter_filter]
      refine List.filter_congr fun a _ => ?_
      simp [isDue]
      omega
    have e2 : (l.filter fun a => isDue g a && !isDue f a) = (l.filter (isDue g)).filter (fun a => !isDue f a) := by
      rw [List.filter_filter]
      refine List.filter_congr fun a _ => ?_
      rw [Bool.and_comm]
    rw [e1, e2]
    exact List.filter_append_perm _ _
  · refine List.pairwise_append.2 ⟨due_sort _ _, due_sort _ _, fun a ha b hb => ?_⟩
    have h1 := (due_mem.1 ha).2
    have h2 := (left_mem.1 (due_mem.1 hb).1).2
    rw [leA_iff]
    omega
theorem left_two (l : List Al) {f g : Int} (h : f ≤ g) : leftA (leftA l f) g = leftA l g := by
  unfold leftA
  rw [List.filter_filter]
  refine List.filter_congr fun a _ => ?_
  simp [isDue]
  omega
/-- finding. -/
theorem find_none {l : List Al} {n : Int} (h : findH l n = none) : ∀ a ∈ l, a.num ≠ n := by
  intro a ha e
  have := List.findIdx?_eq_none_iff.1 h a ha
  rw [e] at this
  simp at this
theorem find_some {l : List Al} {n : Int} {i : Nat} (h : findH l n = some i) : ∃ hi : i < l.length, l[i].num = n ∧ ∀ j (hj : j < i), (l[j]'(Nat.lt_trans hj hi)).num ≠ n := by
  obtain ⟨h1, h2, h3⟩ := List.findIdx?_eq_some_iff_getElem.1 h
  refine ⟨h1, by simpa using h2, fun j hj e => ?_⟩
  have := h3 j hj
  rw [e] at this
  simp at this
theorem find_not {l : List Al} {n : Int} (h : ∀ a ∈ l, a.num ≠ n) : findH l n = none := by
  unfold findH
  rw [List.findIdx?_eq_none_iff]
  intro a ha
  simpa using h a ha
theorem find_is {l : List Al} {n : Int} {i : Nat} (hi : i < l.length) (h : l[i].num = n) (h0 : ∀ j (hj : j < i), (l[j]'(Nat.lt_trans hj hi)).num ≠ n) : findH l n = some i := by
  unfold findH
  rw [List.findIdx?_eq_some_iff_getElem]
  exact ⟨hi, by simpa using h, fun j hj => by simpa using h0 j hj⟩
/-- numbers that differ. -/
def OnceA (l : List Al) : Prop := l.Pairwise (fun a b => a.num ≠ b.num)
theorem OnceA.find {l : List Al} (o : OnceA l) {a : Al} (ha : a ∈ l) : ∃ i, ∃ hi : i < l.length, findH l a.num = some i ∧ l[i] = a := by
  obtain ⟨i, hi, rfl⟩ := List.getElem_of_mem ha
  refine ⟨i, hi, find_is hi rfl fun j hj e => ?_, rfl⟩
  exact List.pairwise_iff_getElem.1 o j i (by omega) hi hj e
theorem OnceA.left {l : List Al} (o : OnceA l) (now : Int) : OnceA (leftA l now) := List.Pairwise.filter _ o
theorem OnceA.when {l : List Al} (o : OnceA l) {a : Al} (ha : a ∈ l) (now : Int) : whenH ⟨l, now⟩ a.num = (a.at_, true) := by
  obtain ⟨i, hi, h1, h2⟩ := o.find ha
  unfold whenH
  dsimp only
  rw [h1]
  dsimp only
  rw [List.getD_eq_getElem?_getD, List.getElem?_eq_getElem hi, h2]
  rfl
theorem when_not {l : List Al} {n : Int} (h : ∀ a ∈ l, a.num ≠ n) (now : Int) : whenH ⟨l, now⟩ n = (0, false) := by
  unfold whenH
  dsimp only
  rw [find_not h]
end Go.Proofs.Ytofpalmghdapkaa

/- Wheels of alarms: what the laws see: plain mathematics. -/
namespace Go.Proofs.Ytofpalmghdapkaa
set_option linter.unusedVariables false

structure RightW (x : Wh) : Prop where
  once : OnceA x.list
  rng : ∀ a ∈ x.list, 0 ≤ a.num ∧ a.num ≤ 2147483647 ∧ x.now < a.at_ ∧ a.at_ ≤ 1099511627776
  size : x.list.length ≤ 256
  now0 : 0 ≤ x.now
  now1 : x.now ≤ 1099511627776
theorem right_wh0 : RightW wh0 := ⟨List.Pairwise.nil, (fun a h => by cases h), by decide, by decide, by decide⟩
/-- without the alarm at a place. -/
theorem cut_mem {l : List Al} {i : Nat} {a : Al} (h : a ∈ l.take i ++ l.drop (i + 1)) : a ∈ l := by
  rcases List.mem_append.1 h with h | h
  · exact List.mem_of_mem_take h
  · exact List.mem_of_mem_drop h
theorem cut_split {l : List Al} {i : Nat} (hi : i < l.length) : l = l.take i ++ l[i] :: l.drop (i + 1) := by
  rw [← List.drop_eq_getElem_cons hi, List.take_append_drop]
theorem OnceA.cut {l : List Al} (o : OnceA l) {i : Nat} (hi : i < l.length) : OnceA (l.take i ++ l.drop (i + 1)) ∧ (∀ a ∈ l.take i ++ l.drop (i + 1), a.num ≠ l[i].num) := by
  have o' : OnceA (l.take i ++ l[i] :: l.drop (i + 1)) := by rw [← cut_split hi]; exact o
  obtain ⟨p1, p2, p3⟩ := List.pairwise_append.1 o'
  obtain ⟨p4, p5⟩ := List.pairwise_cons.1 p2
  refine ⟨List.pairwise_append.2 ⟨p1, p5, fun a ha b hb => p3 a ha b (List.mem_cons.2 (.inr hb))⟩, fun a ha => ?_⟩
  rcases List.mem_append.1 ha with ha | ha
  · exact p3 a ha _ (List.mem_cons.2 (.inl rfl))
  · exact fun e => p4 a ha e.symm
theorem cut_length {l : List Al} {i : Nat} (hi : i < l.length) : (l.take i ++ l.drop (i + 1)).length + 1 = l.length := by
  rw [List.length_append, List.length_take, List.length_drop]
  omega
theorem OnceA.snoc {l : List Al} (o : OnceA l) {b : Al} (h : ∀ a ∈ l, a.num ≠ b.num) : OnceA (l ++ [b]) :=
  List.pairwise_append.2 ⟨o, List.pairwise_singleton _ _, fun a ha c hc => by obtain rfl := List.mem_singleton.1 hc; exact h a ha⟩
theorem RightW.set {x : Wh} (r : RightW x) (n t : Int) : RightW (setH x n t).1 := by
  unfold setH
  split
  · exact r
  rename_i h1
  split
  · exact r
  rename_i h2
  have hb : 0 ≤ n ∧ n ≤ 2147483647 ∧ x.now < t ∧ t ≤ 1099511627776 := by omega
  cases hf : findH x.list n
  · dsimp only
    split
    · exact r
    · rename_i h3
      refine ⟨r.once.snoc (find_none hf), fun a ha => ?_, by rw [List.length_append]; simp; omega, r.now0, r.now1⟩
      rcases List.mem_append.1 ha with ha | ha
      · exact r.rng a ha
      · obtain rfl := List.mem_singleton.1 ha; exact hb
  · rename_i i
    dsimp only
    obtain ⟨hi, he, _⟩ := find_some hf
    obtain ⟨o1, o2⟩ := r.once.cut hi
    rw [he] at o2
    have hl := cut_length hi
    have hs := r.size
    refine ⟨o1.snoc o2, fun a ha => ?_, by rw [List.length_append]; simp only [List.length_singleton]; omega, r.now0, r.now1⟩
    rcases List.mem_append.1 ha with ha | ha
    · exact r.rng a (cut_mem ha)
    · obtain rfl := List.mem_singleton.1 ha; exact hb
theorem RightW.drop {x : Wh} (r : RightW x) (n : Int) : RightW (dropH x n).1 := by
  unfold dropH
  cases hf : findH x.list n
  · exact r
  · rename_i i
    dsimp only
    obtain ⟨hi, he, _⟩ := find_some hf
    have hl := cut_length hi
    have hs := r.size
    exact ⟨(r.once.cut hi).1, fun a ha => r.rng a (cut_mem ha), by dsimp only; omega, r.now0, r.now1⟩
theorem RightW.tick {x : Wh} (r : RightW x) (now : Int) : RightW (tickH x now).1 := by
  unfold tickH
  split
  · exact r
  · rename_i h
    have h0 := r.now0
    refine ⟨r.once.left now, fun a ha => ?_, Nat.le_trans (List.length_filter_le _ _) r.size, by dsimp only; omega, by dsimp only; omega⟩
    obtain ⟨h1, h2⟩ := left_mem.1 ha
    obtain ⟨q1, q2, q3, q4⟩ := r.rng a h1
    exact ⟨q1, q2, h2, q4⟩
/-- alarms of the numbers from 0 on. -/
def allA (L : List Int) : List Al := (List.range L.length).map (fun (i : Nat) => (⟨(i : Int), L.getD i 0 + 1⟩ : Al))
theorem all_length (L : List Int) : (allA L).length = L.length := by simp [allA]
theorem all_get (L : List Int) (i : Nat) (hi : i < L.length) : (allA L)[i]'(by rw [all_length]; exact hi) = ⟨(i : Int), L[i] + 1⟩ := by
  simp [allA, List.getD_eq_getElem?_getD, hi]
theorem all_mem {L : List Int} {a : Al} : a ∈ allA L ↔ ∃ i, ∃ hi : i < L.length, a = ⟨(i : Int), L[i] + 1⟩ := by
  constructor
  · intro h
    obtain ⟨i, hi, rfl⟩ := List.getElem_of_mem h
    rw [all_length] at hi
    exact ⟨i, hi, all_get L i hi⟩
  · rintro ⟨i, hi, rfl⟩
    rw [← all_get L i hi]
    exact List.getElem_mem _
theorem all_snoc (L : List Int) (k : Nat) (hk : k < L.length) : allA (L.take (k + 1)) = allA (L.take k) ++ [⟨(k : Int), L[k] + 1⟩] := by
  have h1 : (L.take (k + 1)).length = k + 1 := by rw [List.length_take]; omega
  have h2 : (L.take k).length = k := by rw [List.length_take]; omega
  unfold allA
  rw [h1, h2, List.range_succ, List.map_append]
  congr 1
  · refine List.map_congr_left fun i hi => ?_
    have hi := List.mem_range.1 hi
    simp only [List.getD_eq_getElem?_getD, List.getElem?_take, if_pos (show i < k + 1 by omega), if_pos hi]
  · simp [List.getD_eq_getElem?_getD, List.getElem?_take, hk]
theorem all_once (L : List Int) : OnceA (allA L) := by
  unfold OnceA
  rw [List.pairwise_iff_getElem]
  intro i j hi hj hij
  rw [all_length] at hi hj
  rw [all_get L i hi, all_get L j hj]
  dsimp only
  omega
/-- the next one is set. -/
theorem all_set (L : List Int) (hr : ∀ n ∈ L, 0 ≤ n ∧ n ≤ 65535) (hl : L.length ≤ 200) (k : Nat) (hk : k < L.length) : setH ⟨allA (L.take k), 0⟩ (k : Int) (L[k] + 1) = (⟨allA (L.take (k + 1)), 0⟩, 0) := by
  obtain ⟨h0, h1⟩ := hr L[k] (List.getElem_mem hk)
  have hlen : (allA (L.take k)).length = k := by rw [all_length, List.length_take]; omega
  have hf : findH (allA (L.take k)) (k : Int) = none := find_not fun a ha e => by
    obtain ⟨i, hi, rfl⟩ := all_mem.1 ha
    rw [List.length_take] at hi
    dsimp only at e
    omega
  unfold setH
  rw [if_neg (by omega), if_neg (by dsimp only; omega)]
  dsimp only
  rw [hf]
  dsimp only
  rw [if_neg (by rw [hlen]; omega), all_snoc L k hk]
theorem all_left (L : List Int) (hr : ∀ n ∈ L, 0 ≤ n ∧ n ≤ 65535) : leftA (allA L) 0 = allA L := (due_nil fun a ha => by
  obtain ⟨i, hi, rfl⟩ := all_mem.1 ha
  have := hr L[i] (List.getElem_mem hi)
  dsimp only
  omega).2
theorem due_once {l : List Al} (o : OnceA l) (now : Int) : OnceA (dueA l now) :=
  List.Perm.pairwise (due_perm l now).symm (List.Pairwise.filter _ o) (fun {a b} h e => h e.symm)
/-- what is due between two times. -/
theorem all_due (L : List Int) (was now : Int) (k : Nat) (hk : k < (dueA (leftA (allA L) was) now).length) : ∃ i, ∃ hi : i < L.length, (dueA (leftA (allA L) was) now)[k] = ⟨(i : Int), L[i] + 1⟩ ∧ was < L[i] + 1 ∧ L[i] + 1 ≤ now := by
  obtain ⟨h1, h2⟩ := due_mem.1 (List.getElem_mem hk)
  obtain ⟨h3, h4⟩ := left_mem.1 h1
  obtain ⟨i, hi, e⟩ := all_mem.1 h3
  rw [e] at h2 h4
  exact ⟨i, hi, e, h4, h2⟩
theorem all_order (L : List Int) (was now : Int) (k : Nat) (hk : k + 1 < (dueA (leftA (allA L) was) now).length) :
    (dueA (leftA (allA L) was) now)[k].at_ < (dueA (leftA (allA L) was) now)[k + 1].at_ ∨ ((dueA (leftA (allA L) was) now)[k].at_ = (dueA (leftA (allA L) was) now)[k + 1].at_ ∧ (dueA (leftA (allA L) was) now)[k].num < (dueA (leftA (allA L) was) now)[k + 1].num) := by
  have h1 := List.pairwise_iff_getElem.1 (due_sort (leftA (allA L) was) now) k (k + 1) (by omega) hk (by omega)
  have h2 := List.pairwise_iff_getElem.1 (due_once ((all_once L).left was) now) k (k + 1) (by omega) hk (by omega)
  rw [leA_iff] at h1
  omega
theorem all_when (L : List Int) (now t : Int) (i : Nat) (hi : i < L.length) : whenH ⟨leftA (allA L) now, t⟩ (i : Int) = if now < L[i] + 1 then (L[i] + 1, true) else (0, false) := by
  by_cases h : now < L[i] + 1
  · rw [if_pos h]
    exact ((all_once L).left now).when (a := ⟨(i : Int), L[i] + 1⟩) (left_mem.2 ⟨all_mem.2 ⟨i, hi, rfl⟩, h⟩) t
  · rw [if_neg h]
    refine when_not (fun a ha e => ?_) t
    obtain ⟨h1, h2⟩ := left_mem.1 ha
    obtain ⟨j, hj, rfl⟩ := all_mem.1 h1
    dsimp only at e h2
    obtain rfl : j = i := by omega
    exact h h2
/-- an alarm that is set anew, twice. -/
theorem set_found {x : Wh} {n t : Int} {i : Nat} (hb : 0 ≤ n ∧ n ≤ 2147483647 ∧ x.now < t ∧ t ≤ 1099511627776) (h0 : 0 ≤ x.now) (hf : findH x.list n = some i) : setH x n t = (⟨x.list.take i ++ x.list.drop (i + 1) ++ [⟨n, t⟩], x.now⟩, 0) := by
  unfold setH
  rw [if_neg (by omega), if_neg (by omega), hf]
theorem set_twice {x : Wh} {n t u : Int} {i : Nat} (o : OnceA x.list) (hb : 0 ≤ n ∧ n ≤ 2147483647 ∧ x.now < t ∧ t ≤ 1099511627776) (hc : x.now < u ∧ u ≤ 1099511627776) (h0 : 0 ≤ x.now) (hf : findH x.list n = some i) : setH (setH x n t).1 n u = setH x n u := by
  obtain ⟨hi, he, _⟩ := find_some hf
  obtain ⟨o1, o2⟩ := o.cut hi
  rw [he] at o2
  rw [set_found hb h0 hf, set_found (t := u) ⟨hb.1, hb.2.1, hc.1, hc.2⟩ h0 hf]
  dsimp only
  generalize x.list.take i ++ x.list.drop (i + 1) = l at *
  have hf2 : findH (l ++ [⟨n, t⟩]) n = some l.length := find_is (by simp) (by simp) fun j hj => by
    rw [List.getElem_append_left hj]
    exact o2 _ (List.getElem_mem hj)
  rw [set_found (x := ⟨l ++ [(⟨n, t⟩ : Al)], x.now⟩) (t := u) ⟨hb.1, hb.2.1, hc.1, hc.2⟩ h0 hf2]
  dsimp only
  rw [List.take_left, List.drop_eq_nil_of_le (by simp), List.append_nil]
theorem all_find (L : List Int) (i : Nat) (hi : i < L.length) : findH (allA L) (i : Int) = some i := by
  refine find_is (by rw [all_length]; exact hi) (by rw [all_get L i hi]) fun j hj => ?_
  rw [all_get L j (by omega)]
  dsimp only
  omega
/-- two ticks are one. -/
theorem tick_two {x : Wh} {f g : Int} (h1 : x.now ≤ f) (h2 : f ≤ g) (h3 : g ≤ 1099511627776) :
    (tickH x f).2.1 ++ (tickH (tickH x f).1 g).2.1 = (tickH x g).2.1 ∧ (tickH (tickH x f).1 g).1 = (tickH x g).1 := by
  have e1 : tickH x f = (⟨leftA x.list f, f⟩, numsA (dueA x.list f), 0) := by unfold tickH; rw [if_neg (by omega)]
  have e2 : tickH x g = (⟨leftA x.list g, g⟩, numsA (dueA x.list g), 0) := by unfold tickH; rw [if_neg (by omega)]
  have e3 : tickH ⟨leftA x.list f, f⟩ g = (⟨leftA (leftA x.list f) g, g⟩, numsA (dueA (leftA x.list f) g), 0) := by unfold tickH; rw [if_neg (by dsimp only; omega)]
  rw [e1, e2]
  dsimp only
  rw [e3]
  dsimp only
  rw [left_two _ h2, due_two x.list h2]
  exact ⟨by unfold numsA; rw [List.map_append], rfl⟩
/-- some are dropped. -/
def keepA (L : List Int) (D : List Bool) (i : Nat) : List Al := (allA L).filter (fun a => !(decide (a.num < (i : Int)) && D.getD a.num.toNat false))
theorem keep_mem {L : List Int} {D : List Bool} {i : Nat} {a : Al} : a ∈ keepA L D i ↔ a ∈ allA L ∧ ¬ (a.num < (i : Int) ∧ D.getD a.num.toNat false = true) := by
  unfold keepA
  rw [List.mem_filter]
  simp
  intro _
  constructor
  · rintro (h | h) h'
    · omega
    · exact h
  · intro h
    rcases Int.lt_or_le a.num (i : Int) with q | q
    · exact .inr (h q)
    · exact .inl q
theorem keep_zero (L : List Int) (D : List Bool) : keepA L D 0 = allA L := by
  unfold keepA
  rw [List.filter_eq_self]
  intro a ha
  obtain ⟨i, hi, rfl⟩ := all_mem.1 ha
  simp
theorem keep_once (L : List Int) (D : List Bool) (i : Nat) : OnceA (keepA L D i) := List.Pairwise.filter _ (all_once L)
theorem keep_same (L : List Int) (D : List Bool) (i : Nat) (h : D.getD i false = false) : keepA L D (i + 1) = keepA L D i := by
  unfold keepA
  refine List.filter_congr fun a ha => ?_
  obtain ⟨j, hj, rfl⟩ := all_mem.1 ha
  dsimp only
  by_cases e : j = i
  · subst e
    rw [List.getD_eq_getElem?_getD] at h
    simp [h]
  · have : decide ((j : Int) < ((i + 1 : Nat) : Int)) = decide ((j : Int) < (i : Int)) := by rw [decide_eq_decide]; omega
    rw [this]
theorem keep_drop (L : List Int) (D : List Bool) (i : Nat) (hi : i < L.length) (h : D.getD i false = true) (now : Int) : dropH ⟨keepA L D i, now⟩ (i : Int) = (⟨keepA L D (i + 1), now⟩, 0) ∧ dropH ⟨keepA L D (i + 1), now⟩ (i : Int) = (⟨keepA L D (i + 1), now⟩, 9) ∧ (keepA L D (i + 1)).length + 1 = (keepA L D i).length := by
  have hm : (⟨(i : Int), L[i] + 1⟩ : Al) ∈ keepA L D i := keep_mem.2 ⟨all_mem.2 ⟨i, hi, rfl⟩, fun q => by have := q.1; dsimp only at this; omega⟩
  obtain ⟨p, hp, hf, he⟩ := (keep_once L D i).find hm
  dsimp only at hf
  have hcut : (keepA L D i).take p ++ (keepA L D i).drop (p + 1) = keepA L D (i + 1) := by
    have h1 : keepA L D (i + 1) = (keepA L D i).filter (fun a => !(a.num == (i : Int))) := by
      unfold keepA
      rw [List.filter_filter]
      refine List.filter_congr fun a ha => ?_
      obtain ⟨j, hj, rfl⟩ := all_mem.1 ha
      dsimp only
      by_cases e : j = i
      · subst e
        rw [List.getD_eq_getElem?_getD] at h
        simp [h]
        try omega
      · have h2 : decide ((j : Int) < ((i + 1 : Nat) : Int)) = decide ((j : Int) < (i : Int)) := by rw [decide_eq_decide]; omega
        have h3 : ((j : Int) == (i : Int)) = false := by simp; omega
        rw [h2, h3]
        simp
    obtain ⟨o1, o2⟩ := (keep_once L D i).cut hp
    rw [he] at o2
    rw [h1]
    have hs := cut_split hp
    rw [he] at hs
    generalize (keepA L D i).take p = u at *
    generalize (keepA L D i).drop (p + 1) = v at *
    rw [hs, List.filter_append, List.filter_cons, if_neg (by simp), ← List.filter_append]
    exact (List.filter_eq_self.2 fun a ha => by simpa using o2 a ha).symm
  refine ⟨?_, ?_, ?_⟩
  · unfold dropH
    dsimp only
    rw [hf]
    dsimp only
    rw [hcut]
  · unfold dropH
    dsimp only
    rw [find_not]
    intro a ha e
    obtain ⟨h1, h2⟩ := keep_mem.1 ha
    obtain ⟨j, hj, rfl⟩ := all_mem.1 h1
    dsimp only at e h2
    obtain rfl : j = i := by omega
    exact h2 ⟨by omega, by simpa using h⟩
  · rw [← hcut]
    exact cut_length hp
theorem keep_due (L : List Int) (D : List Bool) (hr : ∀ n ∈ L, 0 ≤ n ∧ n ≤ 65535) (i : Nat) : (dueA (keepA L D i) 70000).length = (keepA L D i).length ∧ leftA (keepA L D i) 70000 = [] := by
  have h0 : leftA (keepA L D i) 70000 = [] := by
    rw [List.eq_nil_iff_forall_not_mem]
    intro a ha
    obtain ⟨h1, h2⟩ := left_mem.1 ha
    obtain ⟨j, hj, rfl⟩ := all_mem.1 (keep_mem.1 h1).1
    have := hr L[j] (List.getElem_mem hj)
    dsimp only at h2
    omega
  have := due_length (keepA L D i) 70000
  rw [h0] at this
  exact ⟨by simpa using this, h0⟩
end Go.Proofs.Ytofpalmghdapkaa

/- Stores of flows: plain mathematics. -/
namespace Go.Proofs.Ytofpalmghdapkaa
set_option linter.unusedVariables false

structure Fl where
  there : Tp
  back : Tp
  until_ : Int
  note : Int
abbrev fl0 : Fl := ⟨tp0, tp0, 0, 0⟩
/-- a store: of each number a flow, or none; its time. -/
structure Sr where
  slots : List (Option Fl)
  now : Int
def slotF (l : List (Option Fl)) (i : Nat) : Option Fl := l.getD i none
def hasT (f : Fl) (t : Tp) : Bool := sameTp f.there t || sameTp f.back t
def isT (t : Tp) (o : Option Fl) : Bool := match o with
  | some f => hasT f t
  | none => false
def findF (l : List (Option Fl)) (t : Tp) : Option Nat := l.findIdx? (isT t)
def findS (s : Sr) (t : Tp) : Int × Bool × Bool := match findF s.slots t with
  | none => (0, false, false)
  | some i => ((i : Nat), !sameTp ((slotF s.slots i).getD fl0).there t, true)
def freeF (l : List (Option Fl)) : Option Nat := l.findIdx? (fun o => o.isNone)
def mayF (f : Fl) : Bool := rightT f.there && (rightT f.back && (!sameTp f.there f.back && decide (f.until_ ≤ 1099511627776)))
def newS (room : Int) : Option Sr := if room < 1 ∨ room > 256 then none else some ⟨List.replicate room.toNat none, 0⟩
def addS (s : Sr) (f : Fl) : Sr × Int × Int :=
  if mayF f = false then (s, 0, 1)
  else if f.until_ ≤ s.now then (s, 0, 14)
  else if (findF s.slots f.there).isSome || (findF s.slots f.back).isSome then (s, 0, 10)
  else match freeF s.slots with
    | none => (s, 0, 8)
    | some i => (⟨s.slots.set i (some f), s.now⟩, (i : Nat), 0)
def thereF (s : Sr) (num : Int) : Option Fl := if 0 ≤ num then slotF s.slots num.toNat else none
def setF11 (s : Sr) (num u no : Int) : Sr × Int := match thereF s num with
  | none => (s, 9)
  | some f => if u > 1099511627776 then (s, 1) else if u ≤ s.now then (s, 14) else (⟨s.slots.set num.toNat (some ⟨f.there, f.back, u, no⟩), s.now⟩, 0)
def dropF (s : Sr) (num : Int) : Sr × Fl × Int := match thereF s num with
  | none => (s, fl0, 9)
  | some f => (⟨s.slots.set num.toNat none, s.now⟩, f, 0)
/-- the flows' alarms. -/
def alF (l : List (Option Fl)) : List Al := (List.range l.length).filterMap (fun (i : Nat) => (slotF l i).map (fun f => (⟨(i : Int), f.until_⟩ : Al)))
def stays (now : Int) (o : Option Fl) : Option Fl := o.filter (fun f => decide (now < f.until_))
def tickF (s : Sr) (now : Int) : Sr × List Fl × Int :=
  if now < s.now ∨ now > 1099511627776 then (s, [], 1)
  else (⟨s.slots.map (stays now), now⟩, (dueA (alF s.slots) now).map (fun a => (slotF s.slots a.num.toNat).getD fl0), 0)
def allF (l : List (Option Fl)) : List Fl := l.filterMap id
theorem slot_get {l : List (Option Fl)} {i : Nat} (h : i < l.length) : slotF l i = l[i] := by unfold slotF; rw [List.getD_eq_getElem?_getD, List.getElem?_eq_getElem h]; rfl
theorem slot_out {l : List (Option Fl)} {i : Nat} (h : l.length ≤ i) : slotF l i = none := by unfold slotF; rw [List.getD_eq_getElem?_getD, List.getElem?_eq_none h]; rfl
theorem slot_lt {l : List (Option Fl)} {i : Nat} {f : Fl} (h : slotF l i = some f) : i < l.length := by
  rcases Nat.lt_or_ge i l.length with h' | h'
  · exact h'
  · rw [slot_out h'] at h; cases h
theorem slot_set {l : List (Option Fl)} {i : Nat} (h : i < l.length) (o : Option Fl) (j : Nat) : slotF (l.set i o) j = if i = j then o else slotF l j := by
  unfold slotF
  rw [List.getD_eq_getElem?_getD, List.getD_eq_getElem?_getD, List.getElem?_set]
  split
  · rename_i e
    subst e
    first | rfl | (rw [if_pos h]; rfl)
  · rfl
theorem slot_map (l : List (Option Fl)) (g : Option Fl → Option Fl) (hg : g none = none) (j : Nat) : slotF (l.map g) j = g (slotF l j) := by
  unfold slotF
  rw [List.getD_eq_getElem?_getD, List.getD_eq_getElem?_getD, List.getElem?_map]
  cases l[j]? with
  | none => exact hg.symm
  | some o => rfl
theorem hasT_iff (f : Fl) (t : Tp) : hasT f t = true ↔ f.there = t ∨ f.back = t := by
  unfold hasT
  rw [Bool.or_eq_true, sameTp_iff, sameTp_iff]
theorem isT_iff (t : Tp) (o : Option Fl) : isT t o = true ↔ ∃ f, o = some f ∧ (f.there = t ∨ f.back = t) := by
  unfold isT
  cases o with
  | none => simp
  | some f => simp [hasT_iff]
theorem mayF_iff (f : Fl) : mayF f = true ↔ rightT f.there = true ∧ rightT f.back = true ∧ f.there ≠ f.back ∧ f.until_ ≤ 1099511627776 := by
  unfold mayF
  simp only [Bool.and_eq_true, Bool.not_eq_true', decide_eq_true_eq]
  constructor
  · rintro ⟨h1, h2, h3, h4⟩
    exact ⟨h1, h2, (fun e => by rw [(sameTp_iff _ _).2 e] at h3; cases h3), h4⟩
  · rintro ⟨h1, h2, h3, h4⟩
    refine ⟨h1, h2, ?_, h4⟩
    cases h : sameTp f.there f.back
    · rfl
    · exact absurd ((sameTp_iff _ _).1 h) h3
/-- a right store. -/
structure RightS (s : Sr) : Prop where
  room : 1 ≤ s.slots.length ∧ s.slots.length ≤ 256
  may : ∀ i f, slotF s.slots i = some f → mayF f = true ∧ s.now < f.until_
  apart : ∀ i j f g, slotF s.slots i = some f → slotF s.slots j = some g → i ≠ j → f.there ≠ g.there ∧ f.there ≠ g.back ∧ f.back ≠ g.there ∧ f.back ≠ g.back
  now0 : 0 ≤ s.now
  now1 : s.now ≤ 1099511627776
theorem findF_none {l : List (Option Fl)} {t : Tp} (h : findF l t = none) : ∀ i f, slotF l i = some f → f.there ≠ t ∧ f.back ≠ t := by
  intro i f hf
  have hi := slot_lt hf
  rw [slot_get hi] at hf
  have := List.findIdx?_eq_none_iff.1 h _ (List.getElem_mem hi)
  rw [hf] at this
  constructor
  · intro e
    rw [(isT_iff t (some f)).2 ⟨f, rfl, .inl e⟩] at this
    cases this
  · intro e
    rw [(isT_iff t (some f)).2 ⟨f, rfl, .inr e⟩] at this
    cases this
theorem findF_some {l : List (Option Fl)} {t : Tp} {i : Nat} (h : findF l t = some i) : ∃ f, slotF l i = some f ∧ (f.there = t ∨ f.back = t) := by
  obtain ⟨h1, h2, _⟩ := List.findIdx?_eq_some_iff_getElem.1 h
  rw [← slot_get h1] at h2
  exact (isT_iff _ _).1 h2
/-- a flow of a right store is found by both of its tuples. -/
theorem RightS.find {s : Sr} (r : RightS s) {i : Nat} {f : Fl} (h : slotF s.slots i = some f) {t : Tp} (ht : f.there = t ∨ f.back = t) : findF s.slots t = some i := by
  have hi := slot_lt h
  unfold findF
  rw [List.findIdx?_eq_some_iff_getElem]
  refine ⟨hi, ?_, fun j hj hne => ?_⟩
  · rw [← slot_get hi, h]
    exact (isT_iff _ _).2 ⟨f, rfl, ht⟩
  · have hjl : j < s.slots.length := by omega
    obtain ⟨g, hg, hgt⟩ := (isT_iff t _).1 (show isT t (s.slots[j]) = true by simpa using hne)
    rw [← slot_get hjl] at hg
    have := r.apart i j f g h hg (by omega)
    rcases ht with e | e <;> rcases hgt with e' | e'
    · exact this.1 (e.trans e'.symm)
    · exact this.2.1 (e.trans e'.symm)
    · exact this.2.2.1 (e.trans e'.symm)
    · exact this.2.2.2 (e.trans e'.symm)
theorem RightS.findS {s : Sr} (r : RightS s) {i : Nat} {f : Fl} (h : slotF s.slots i = some f) : findS s f.there = ((i : Int), false, true) ∧ findS s f.back = ((i : Int), true, true) := by
  have hm := (mayF_iff f).1 (r.may i f h).1
  unfold Go.Proofs.Ytofpalmghdapkaa.findS
  rw [r.find h (.inl rfl), r.find h (.inr rfl)]
  dsimp only
  rw [h]
  dsimp only [Option.getD_some]
  rw [(sameTp_iff _ _).2 rfl]
  refine ⟨rfl, ?_⟩
  cases hs : sameTp f.there f.back
  · rfl
  · exact absurd ((sameTp_iff _ _).1 hs) hm.2.2.1
theorem freeF_some {l : List (Option Fl)} {i : Nat} (h : freeF l = some i) : i < l.length ∧ slotF l i = none ∧ ∀ j, j < i → slotF l j ≠ none := by
  obtain ⟨h1, h2, h3⟩ := List.findIdx?_eq_some_iff_getElem.1 h
  refine ⟨h1, ?_, fun j hj e => ?_⟩
  · rw [slot_get h1]; simpa using h2
  · have := h3 j hj
    rw [slot_get (by omega)] at e
    rw [e] at this
    simp at this
theorem freeF_none {l : List (Option Fl)} (h : freeF l = none) : ∀ i, i < l.length → slotF l i ≠ none := by
  intro i hi e
  have := List.findIdx?_eq_none_iff.1 h _ (List.getElem_mem hi)
  rw [← slot_get hi, e] at this
  simp at this
/-- what Add does, by its cases. -/
theorem add_cases (s : Sr) (f : Fl) : (∃ e, addS s f = (s, 0, e) ∧ (e = 1 ∨ e = 14 ∨ e = 10 ∨ e = 8)) ∨ ∃ i : Nat, addS s f = (⟨s.slots.set i (some f), s.now⟩, (i : Int), 0) ∧ mayF f = true ∧ s.now < f.until_ ∧ findF s.slots f.there = none ∧ findF s.slots f.back = none ∧ freeF s.slots = some i := by
  unfold addS
  by_cases h1 : mayF f = false
  · rw [if_pos h1]; exact .inl ⟨1, rfl, .inl rfl⟩
  · rw [if_neg h1]
    by_cases h2 : f.until_ ≤ s.now
    · rw [if_pos h2]; exact .inl ⟨14, rfl, .inr (.inl rfl)⟩
    · rw [if_neg h2]
      cases h3 : findF s.slots f.there with
      | some _ => exact .inl ⟨10, rfl, .inr (.inr (.inl rfl))⟩
      | none =>
        cases h4 : findF s.slots f.back with
        | some _ => exact .inl ⟨10, rfl, .inr (.inr (.inl rfl))⟩
        | none =>
          cases h5 : freeF s.slots with
          | none => exact .inl ⟨8, rfl, .inr (.inr (.inr rfl))⟩
          | some i => exact .inr ⟨i, rfl, by simpa using h1, by omega, rfl, rfl, rfl⟩
theorem RightS.add {s : Sr} (r : RightS s) (f : Fl) : RightS (addS s f).1 := by
  rcases add_cases s f with ⟨e, h, _⟩ | ⟨i, h, hm, hu, h1, h2, hfr⟩
  · rw [h]; exact r
  · rw [h]
    obtain ⟨hi, hn, _⟩ := freeF_some hfr
    have A := slot_set hi (some f)
    have n1 := findF_none h1
    have n2 := findF_none h2
    refine ⟨by dsimp only; rw [List.length_set]; exact r.room, fun j g hg => ?_, fun j k g g' hg hg' hjk => ?_, r.now0, r.now1⟩
    · dsimp only at hg ⊢
      rw [A] at hg
      split at hg
      · cases hg; exact ⟨hm, hu⟩
      · exact r.may j g hg
    · dsimp only at hg hg'
      rw [A] at hg hg'
      split at hg
      · split at hg'
        · omega
        · cases hg
          have a := n1 k g' hg'
          have b := n2 k g' hg'
          exact ⟨fun e => a.1 e.symm, fun e => a.2 e.symm, fun e => b.1 e.symm, fun e => b.2 e.symm⟩
      · split at hg'
        · cases hg'
          have a := n1 j g hg
          have b := n2 j g hg
          exact ⟨a.1, b.1, a.2, b.2⟩
        · exact r.apart j k g g' hg hg' hjk
theorem there_iff {s : Sr} {num : Int} {f : Fl} (h : thereF s num = some f) : ∃ i : Nat, num = (i : Int) ∧ slotF s.slots i = some f := by
  unfold thereF at h
  split at h
  · exact ⟨num.toNat, by omega, h⟩
  · cases h
theorem there_nat (s : Sr) (i : Nat) : thereF s (i : Int) = slotF s.slots i := by
  unfold thereF
  rw [if_pos (by omega)]
  rfl
theorem RightS.set {s : Sr} (r : RightS s) (num u no : Int) : RightS (setF11 s num u no).1 := by
  unfold setF11
  cases h : thereF s num with
  | none => exact r
  | some f =>
    obtain ⟨i, rfl, hf⟩ := there_iff h
    dsimp only
    split
    · exact r
    · split
      · exact r
      · have hi := slot_lt hf
        have A := slot_set hi (some ⟨f.there, f.back, u, no⟩)
        have hm := (mayF_iff f).1 (r.may i f hf).1
        rw [show ((i : Int)).toNat = i from rfl]
        refine ⟨by dsimp only; rw [List.length_set]; exact r.room, fun j g hg => ?_, fun j k g g' hg hg' hjk => ?_, r.now0, r.now1⟩
        · dsimp only at hg ⊢
          rw [A] at hg
          split at hg
          · cases hg
            exact ⟨(mayF_iff _).2 ⟨hm.1, hm.2.1, hm.2.2.1, by dsimp only; omega⟩, by dsimp only; omega⟩
          · exact r.may j g hg
        · dsimp only at hg hg'
          rw [A] at hg hg'
          split at hg
          · split at hg'
            · omega
            · rename_i e1 e2
              cases hg
              exact r.apart i k f g' hf hg' (by omega)
          · split at hg'
            · rename_i e1 e2
              cases hg'
              exact r.apart j i g f hg hf (by omega)
            · exact r.apart j k g g' hg hg' hjk
theorem RightS.drop {s : Sr} (r : RightS s) (num : Int) : RightS (dropF s num).1 := by
  unfold dropF
  cases h : thereF s num with
  | none => exact r
  | some f =>
    obtain ⟨i, rfl, hf⟩ := there_iff h
    dsimp only
    have A := slot_set (slot_lt hf) none
    rw [show ((i : Int)).toNat = i from rfl]
    refine ⟨by dsimp only; rw [List.length_set]; exact r.room, fun j g hg => ?_, fun j k g g' hg hg' hjk => ?_, r.now0, r.now1⟩
    · dsimp only at hg ⊢
      rw [A] at hg
      split at hg
      · cases hg
      · exact r.may j g hg
    · dsimp only at hg hg'
      rw [A] at hg hg'
      split at hg
      · cases hg
      · split at hg'
        · cases hg'
        · exact r.apart j k g g' hg hg' hjk
theorem stays_some {now : Int} {o : Option Fl} {f : Fl} : stays now o = some f ↔ o = some f ∧ now < f.until_ := by
  unfold stays
  rw [Option.filter_eq_some_iff]
  simp
theorem RightS.tick {s : Sr} (r : RightS s) (now : Int) : RightS (tickF s now).1 := by
  unfold tickF
  split
  · exact r
  · rename_i h
    have A := slot_map s.slots (stays now) rfl
    refine ⟨by dsimp only; rw [List.length_map]; exact r.room, fun j g hg => ?_, fun j k g g' hg hg' hjk => ?_, by have := r.now0; dsimp only; omega, by dsimp only; omega⟩
    · dsimp only at hg ⊢
      rw [A] at hg
      obtain ⟨h1, h2⟩ := stays_some.1 hg
      exact ⟨(r.may j g h1).1, h2⟩
    · dsimp only at hg hg'
      rw [A] at hg hg'
      exact r.apart j k g g' (stays_some.1 hg).1 (stays_some.1 hg').1 hjk
theorem RightS.new {room : Int} {s : Sr} (h : newS room = some s) : RightS s ∧ (s.slots.length : Int) = room ∧ s.now = 0 ∧ ∀ i, slotF s.slots i = none := by
  unfold newS at h
  split at h
  · cases h
  · injection h with h
    subst h
    have hn : ∀ i, slotF (List.replicate room.toNat none) i = none := fun i => by
      unfold slotF
      rw [List.getD_eq_getElem?_getD, List.getElem?_replicate]
      split <;> rfl
    refine ⟨⟨by dsimp only; rw [List.length_replicate]; omega, fun i f hf => ?_, fun i j f g hf => ?_, Int.le_refl 0, by show (0 : Int) ≤ 1099511627776; decide⟩, by dsimp only; rw [List.length_replicate]; omega, rfl, hn⟩
    · dsimp only at hf; rw [hn] at hf; cases hf
    · dsimp only at hf; rw [hn] at hf; cases hf
/-- all flows, in the order of their numbers. -/
theorem allF_mem {l : List (Option Fl)} {f : Fl} : f ∈ allF l ↔ ∃ i, slotF l i = some f := by
  unfold allF
  rw [List.mem_filterMap]
  constructor
  · rintro ⟨o, ho, e⟩
    obtain ⟨i, hi, rfl⟩ := List.getElem_of_mem ho
    exact ⟨i, by rw [slot_get hi]; exact e⟩
  · rintro ⟨i, h⟩
    have hi := slot_lt h
    rw [slot_get hi] at h
    exact ⟨l[i], List.getElem_mem hi, h⟩
theorem allF_length (l : List (Option Fl)) : (allF l).length ≤ l.length := List.length_filterMap_le _ _
theorem slot_cons0 (o : Option Fl) (l : List (Option Fl)) : slotF (o :: l) 0 = o := rfl
theorem slot_consS (o : Option Fl) (l : List (Option Fl)) (i : Nat) : slotF (o :: l) (i + 1) = slotF l i := rfl
/-- no two of them have a tuple in common. -/
theorem allF_apart : ∀ (l : List (Option Fl)), (∀ i j f g, slotF l i = some f → slotF l j = some g → i ≠ j → f.there ≠ g.there ∧ f.there ≠ g.back ∧ f.back ≠ g.there ∧ f.back ≠ g.back) → (allF l).Pairwise (fun f g => f.there ≠ g.there ∧ f.there ≠ g.back ∧ f.back ≠ g.there ∧ f.back ≠ g.back)
  | [], _ => List.Pairwise.nil
  | o :: t, h => by
    have ht := allF_apart t (fun i j f g hf hg hij => h (i + 1) (j + 1) f g hf hg (by omega))
    cases o with
    | none => exact ht
    | some a =>
      refine List.pairwise_cons.2 ⟨fun g hg => ?_, ht⟩
      obtain ⟨j, hj⟩ := allF_mem.1 hg
      exact h 0 (j + 1) a g rfl hj (by omega)
end Go.Proofs.Ytofpalmghdapkaa

/- Stores of flows: the least number; plain mathematics. -/
namespace Go.Proofs.Ytofpalmghdapkaa
set_option linter.unusedVariables false
set_option linter.unusedSimpArgs false

abbrev leastF (i : Nat) : Fl := ⟨⟨0, (i : Int), 0, 1000, 0⟩, ⟨0, 1000, 0, (i : Int), 0⟩, 5, 0⟩
def leastS (n k : Nat) : Sr := ⟨(List.range n).map (fun i => if i < k then some (leastF i) else none), 0⟩
theorem least_length (n k : Nat) : (leastS n k).slots.length = n := by simp [leastS]
theorem least_slot (n k i : Nat) : slotF (leastS n k).slots i = if i < n ∧ i < k then some (leastF i) else none := by
  unfold slotF leastS
  rw [List.getD_eq_getElem?_getD, List.getElem?_map]
  by_cases h : i < n
  · rw [List.getElem?_range h]
    by_cases h2 : i < k
    · simp [h, h2]
    · simp [h2]
  · rw [List.getElem?_eq_none (by simp; omega)]
    simp [h]
theorem slots_ext {l l' : List (Option Fl)} (hl : l.length = l'.length) (h : ∀ i, slotF l i = slotF l' i) : l = l' := by
  refine List.ext_getElem hl fun i h1 h2 => ?_
  have := h i
  rwa [slot_get h1, slot_get h2] at this
theorem find_free {l : List (Option Fl)} {t : Tp} (h : ∀ i f, slotF l i = some f → f.there ≠ t ∧ f.back ≠ t) : findF l t = none := by
  unfold findF
  rw [List.findIdx?_eq_none_iff]
  intro o ho
  obtain ⟨i, hi, rfl⟩ := List.getElem_of_mem ho
  cases hs : isT t l[i]
  · rfl
  · obtain ⟨f, hf, hft⟩ := (isT_iff _ _).1 hs
    rw [← slot_get hi] at hf
    have := h i f hf
    rcases hft with e | e
    · exact absurd e this.1
    · exact absurd e this.2
theorem free_is {l : List (Option Fl)} {i : Nat} (hi : i < l.length) (h : slotF l i = none) (h0 : ∀ j, j < i → slotF l j ≠ none) : freeF l = some i := by
  unfold freeF
  rw [List.findIdx?_eq_some_iff_getElem]
  refine ⟨hi, by rw [← slot_get hi, h]; rfl, fun j hj => ?_⟩
  have := h0 j hj
  rw [slot_get (by omega)] at this
  cases hs : l[j]
  · exact absurd hs this
  · simp
theorem free_not {l : List (Option Fl)} (h : ∀ i, i < l.length → slotF l i ≠ none) : freeF l = none := by
  unfold freeF
  rw [List.findIdx?_eq_none_iff]
  intro o ho
  obtain ⟨i, hi, rfl⟩ := List.getElem_of_mem ho
  have := h i hi
  rw [slot_get hi] at this
  cases hs : l[i]
  · exact absurd hs this
  · rfl
theorem least_may (i : Nat) (hi : i ≤ 100) : mayF (leastF i) = true := by
  rw [mayF_iff]
  refine ⟨by rw [rightT_iff]; simp [leastF], by rw [rightT_iff]; simp [leastF], fun e => ?_, by simp [leastF]⟩
  have := congrArg Tp.src e
  simp [leastF] at this
  omega
theorem least_apart (i k : Nat) (h : i ≠ k) (hi : i ≤ 100) (hk : k ≤ 100) : ((leastF i).there ≠ (leastF k).there ∧ (leastF i).back ≠ (leastF k).there) ∧ ((leastF i).there ≠ (leastF k).back ∧ (leastF i).back ≠ (leastF k).back) := by
  refine ⟨⟨fun e => ?_, fun e => ?_⟩, ⟨fun e => ?_, fun e => ?_⟩⟩
  · have := congrArg Tp.src e; simp [leastF] at this; omega
  · have := congrArg Tp.src e; simp [leastF] at this; omega
  · have := congrArg Tp.src e; simp [leastF] at this; omega
  · have := congrArg Tp.dst e; simp [leastF] at this; omega
theorem least_add (n k : Nat) (hk : k < n) (hn : n ≤ 40) : addS (leastS n k) (leastF k) = (leastS n (k + 1), (k : Int), 0) := by
  have hs := least_slot n k
  have ap : ∀ i f, slotF (leastS n k).slots i = some f → ((f.there ≠ (leastF k).there ∧ f.back ≠ (leastF k).there) ∧ (f.there ≠ (leastF k).back ∧ f.back ≠ (leastF k).back)) := fun i f hf => by
    rw [hs] at hf
    split at hf
    · injection hf with hf
      subst hf
      exact least_apart i k (by omega) (by omega) (by omega)
    · cases hf
  have hfr : freeF (leastS n k).slots = some k := free_is (by rw [least_length]; exact hk) (by rw [hs, if_neg (by omega)]) (fun j hj => by rw [hs, if_pos ⟨by omega, hj⟩]; simp)
  unfold addS
  rw [if_neg (by rw [least_may k (by omega)]; simp), if_neg (by simp [leastF, leastS]), find_free (fun i f hf => (ap i f hf).1), find_free (fun i f hf => (ap i f hf).2), hfr]
  dsimp only [Option.isSome, Bool.or_false]
  rw [if_neg (by simp)]
  have e : (leastS n k).slots.set k (some (leastF k)) = (leastS n (k + 1)).slots := slots_ext (by rw [List.length_set, least_length, least_length]) fun i => by
    rw [slot_set (by rw [least_length]; exact hk), hs, least_slot]
    by_cases h1 : k = i
    · subst h1; rw [if_pos rfl, if_pos ⟨hk, by omega⟩]
    · rw [if_neg h1]
      by_cases h2 : i < n ∧ i < k
      · rw [if_pos h2, if_pos (by omega)]
      · rw [if_neg h2, if_neg (by omega)]
  rw [e]
  rfl
theorem least_full (n : Nat) (hn : n ≤ 40) : addS (leastS n n) (leastF n) = (leastS n n, 0, 8) := by
  have hs := least_slot n n
  have ap : ∀ i f, slotF (leastS n n).slots i = some f → ((f.there ≠ (leastF n).there ∧ f.back ≠ (leastF n).there) ∧ (f.there ≠ (leastF n).back ∧ f.back ≠ (leastF n).back)) := fun i f hf => by
    rw [hs] at hf
    split at hf
    · injection hf with hf
      subst hf
      exact least_apart i n (by omega) (by omega) (by omega)
    · cases hf
  have hfr : freeF (leastS n n).slots = none := free_not (fun i hi => by rw [least_length] at hi; rw [hs, if_pos ⟨hi, hi⟩]; simp)
  unfold addS
  rw [if_neg (by rw [least_may n (by omega)]; simp), if_neg (by simp [leastF, leastS]), find_free (fun i f hf => (ap i f hf).1), find_free (fun i f hf => (ap i f hf).2), hfr]
  dsimp only [Option.isSome, Bool.or_false]
  rw [if_neg (by simp)]
theorem least_new (n : Nat) (h1 : 1 ≤ n) (h2 : n ≤ 40) : newS (n : Int) = some (leastS n 0) := by
  unfold newS
  rw [if_neg (by omega)]
  have e : List.replicate ((n : Int)).toNat none = (leastS n 0).slots := slots_ext (by rw [List.length_replicate, least_length]; rfl) fun i => by
    rw [least_slot, if_neg (by omega)]
    unfold slotF
    rw [List.getD_eq_getElem?_getD, List.getElem?_replicate]
    split <;> rfl
  rw [e]
  rfl
def dropS9 (n d : Nat) : Sr := ⟨(leastS n n).slots.set d none, 0⟩
abbrev flow9 : Fl := ⟨⟨0, 5000, 0, 0, 0⟩, ⟨0, 0, 0, 5000, 0⟩, 9, 0⟩
theorem least_drop (n d : Nat) (hd : d < n) : dropF (leastS n n) (d : Int) = (dropS9 n d, leastF d, 0) := by
  unfold dropF
  rw [there_nat, least_slot, if_pos ⟨hd, hd⟩]
  rfl
theorem least_again (n d : Nat) (hd : d < n) (hn : n ≤ 40) : ∃ S, addS (dropS9 n d) flow9 = (S, (d : Int), 0) ∧ (allF S.slots).length = n := by
  have hs : ∀ i, slotF (dropS9 n d).slots i = if d = i then none else if i < n then some (leastF i) else none := fun i => by
    unfold dropS9
    dsimp only
    rw [slot_set (by rw [least_length]; exact hd), least_slot]
    by_cases h : d = i
    · rw [if_pos h, if_pos h]
    · rw [if_neg h, if_neg h]
      by_cases h2 : i < n
      · rw [if_pos ⟨h2, h2⟩, if_pos h2]
      · rw [if_neg (by omega), if_neg h2]
  have hl : (dropS9 n d).slots.length = n := by unfold dropS9; rw [List.length_set, least_length]
  have ap : ∀ i f, slotF (dropS9 n d).slots i = some f → ((f.there ≠ flow9.there ∧ f.back ≠ flow9.there) ∧ (f.there ≠ flow9.back ∧ f.back ≠ flow9.back)) := fun i f hf => by
    rw [hs] at hf
    split at hf
    · cases hf
    · split at hf
      · injection hf with hf
        subst hf
        refine ⟨⟨fun e => ?_, fun e => ?_⟩, ⟨fun e => ?_, fun e => ?_⟩⟩
        · have := congrArg Tp.dst e; simp [leastF] at this
        · have := congrArg Tp.src e; simp [leastF] at this
        · have := congrArg Tp.dst e; simp [leastF] at this
        · have := congrArg Tp.src e; simp [leastF] at this
      · cases hf
  have hfr : freeF (dropS9 n d).slots = some d := free_is (by rw [hl]; exact hd) (by rw [hs, if_pos rfl]) (fun j hj => by rw [hs, if_neg (by omega), if_pos (by omega)]; simp)
  refine ⟨⟨(dropS9 n d).slots.set d (some flow9), 0⟩, ?_, ?_⟩
  · unfold addS
    rw [if_neg (by decide), if_neg (by show ¬ (9 : Int) ≤ 0; decide), find_free (fun i f hf => (ap i f hf).1), find_free (fun i f hf => (ap i f hf).2), hfr]
    dsimp only [Option.isSome, Bool.or_false]
    rw [if_neg (by simp)]
    rfl
  · unfold allF
    dsimp only
    have hall : ∀ o ∈ (dropS9 n d).slots.set d (some flow9), (id o).isSome = true := fun o ho => by
      obtain ⟨i, hi, rfl⟩ := List.getElem_of_mem ho
      rw [← slot_get hi]
      rw [List.length_set, hl] at hi
      rw [slot_set (by rw [hl]; exact hd), hs]
      by_cases h : d = i
      · rw [if_pos h]; rfl
      · rw [if_neg h, if_neg h, if_pos hi]; rfl
    rw [List.filterMap_length_eq_length.2 hall, List.length_set, hl]
end Go.Proofs.Ytofpalmghdapkaa

/- Structs of many cells, by value: a load, a store into the block that was made last, as laws of the walk (cell by cell the kernel runs out of memory at nineteen). No condition. -/
namespace Go.Proofs.Ytofpalmghdapkaa
open Go.ChangeShapes Go.WideShapes Go.ChangeAt Go.RowKit
set_option linter.unusedVariables false

section
variable {P : Program}
theorem run_loadVar_at (w : World) (ad : Addr) (ty : TypeId) (cs : List Value) (d : TypeDesc) (hc : ∀ j v, cs[j]? = some v → w.cell? (ad.add j) = some v)
    (hu : P.underlying ty = some d) (hd : d.isRow = true) (hi : (P.info? ty).map (·.size) = some cs.length) :
    (loadVar ty ad).run P w = .ok (.agg cs.toArray) w := by
  have hl : (loadCells ad cs.length).run P w = .ok cs.toArray w := run_loadCells_list (P := P) w ad cs hc
  cases hq : P.info? ty with
  | none => simp [hq] at hi
  | some i =>
    have hs : i.size = cs.length := by simpa [hq] using hi
    have hagg : (isAgg ty).run P w = .ok true w := by
      unfold isAgg
      rw [Sem.run_bind, run_underlying hu w]
      cases d <;> simp_all
    simp [loadVar, Sem.run_bind, hagg, sizeOf, typeInfo, hq, hs, hl]
theorem wpList_load_at {ops : Array Oper} {rest : List Oper} {op : Oper} {a : Act} {w : World} {Q : Exit → Act → World → Prop} (hgd : Region.wanted op (yielded ops a.tmps) = true) (ty : TypeId) (x : Operand) (ho : op.op = .load ty x)
    (ad : Addr) (hx : a.eval x = .pointer (some ad)) (cs : List Value) (d : TypeDesc) (hc : ∀ j v, cs[j]? = some v → w.cell? (ad.add j) = some v)
    (hu : P.underlying ty = some d) (hd : d.isRow = true) (hi : (P.info? ty).map (·.size) = some cs.length)
    (h : wpList P ops Q rest (a.put op.dst (.agg cs.toArray)) w) : wpList P ops Q (op :: rest) a w :=
  BigFrame.wpList_want hgd fun _ hK => by
    unfold Oper.wp execOp
    simp only [ho, hx, Instr.loadAt, Instr.sureAddr, Sem.run_bind, Sem.run_pure, Result.andThen_ok, run_loadVar_at w ad ty cs d hc hu hd hi]
    exact hK _ _ h
theorem yieldsIf_load_at {ops : Array Oper} {S : World → Prop} {op : Oper} {a : Act} (hw : Region.wanted op (yielded ops a.tmps) = true) (ty : TypeId) (x : Operand) (ho : op.op = .load ty x)
    (ad : Addr) (hx : a.eval x = .pointer (some ad)) (cs : List Value) (d : TypeDesc) (hS : ∀ w, S w → ∀ j v, cs[j]? = some v → w.cell? (ad.add j) = some v)
    (hu : P.underlying ty = some d) (hd : d.isRow = true) (hi : (P.info? ty).map (·.size) = some cs.length) : YieldsIf P ops S op (.agg cs.toArray) a :=
  .inl ⟨hw, fun w hw' => by
    unfold execOp
    simp only [ho, hx, Instr.loadAt, Instr.sureAddr, Sem.run_bind, Sem.run_pure, Result.andThen_ok, run_loadVar_at w ad ty cs d (hS w hw') hu hd hi]⟩
theorem wpList_store_new {ops : Array Oper} {rest : List Oper} {op : Oper} {a : Act} {w : World} {Q : Exit → Act → World → Prop} (hgd : Region.wanted op (yielded ops a.tmps) = true) (ty : TypeId) (x y : Operand) (ho : op.op = .store ty x y)
    (c c' : Array Value) (hx : a.eval x = .pointer (some ⟨w.heap.size, 0, none⟩)) (hy : a.eval y = .agg c')
    (hi : (P.info? ty).map (·.size) = some c'.size) (hs : c.size = c'.size) (h1 : c'.all (·.oneCell') = true)
    (h : wpList P ops Q rest (a.put op.dst undef) (w.alloc (.cells c' ty))) : wpList P ops Q (op :: rest) a (w.alloc (.cells c ty)) :=
  BigFrame.wpList_want hgd fun _ hK => by
    unfold Oper.wp execOp
    simp only [ho, hx, hy, Instr.storeAt, Instr.sureAddr, Sem.run_bind, Sem.run_pure, Result.andThen_ok, run_storeVar_new (P := P) w ty c c' hi hs h1]
    exact hK _ _ h
end
/-- a block of a struct's own, known whole. -/
def Bxo (w : World) (g : Nat) (ty : TypeId) (cs : List Value) : Prop := w.heap[g]? = some (.cells cs.toArray ty (0, 0))
/-- one block has turned, and nothing else. -/
structure Only (g : Nat) (w w' : World) : Prop where
  os : w'.os = w.os
  tape : w'.tape = w.tape
  output : w'.output = w.output
  size : w'.heap.size = w.heap.size
  block : ∀ k, k ≠ g → w'.heap[k]? = w.heap[k]?
section
variable {w w' w'' : World} {g g' B : Nat} {ty : TypeId} {cs : List Value}
theorem Bxo.lt (h : Bxo w g ty cs) : g < w.heap.size := (Array.getElem?_eq_some_iff.1 h).1
theorem Bxo.made (w : World) (ty : TypeId) (cs : List Value) : Bxo (w.alloc (.cells cs.toArray ty)) w.heap.size ty cs := heap_alloc_new w _
theorem Bxo.keep (h : Bxo w g ty cs) (hb : Below B w w') (hg : g < B) : Bxo w' g ty cs := (hb.block g hg).trans h
theorem Bxo.cell (h : Bxo w g ty cs) (j : Nat) {v : Value} (hj : cs[j]? = some v) : w.cell? ⟨g, j, none⟩ = some v := by
  rw [cell_of_row w g j _ ty _ h]; simpa using hj
theorem Bxo.at (h : Bxo w g ty cs) : ∀ j v, cs[j]? = some v → w.cell? ((⟨g, 0, none⟩ : Addr).add j) = some v := fun j v hj => by
  rw [Addr.add_mid, Nat.zero_add]; exact h.cell j hj
theorem Bxo.frozen (h : Bxo w g ty cs) (j : Nat) : w.frozen? ⟨g, j, none⟩ = false := frozen_of_row w g j _ ty h
theorem Bxo.drew (h : Bxo w g ty cs) : Bxo w.drew g ty cs := h
theorem Bxo.alloc (h : Bxo w g ty cs) (o : Obj) : Bxo (w.alloc o) g ty cs := (Below.heap_alloc w o g h.lt).trans h
theorem Bxo.set (h : Bxo w g ty cs) (j : Nat) (v : Value) : Bxo (w.setCell ⟨g, j, none⟩ v) g ty (cs.set j v) := by
  have := heap_setCell_same w g j cs.toArray ty v h
  rw [List.setIfInBounds_toArray] at this
  exact this
theorem Bxo.other (h : Bxo w g ty cs) {a : Addr} (ha : g ≠ a.block) (v : Value) : Bxo (w.setCell a v) g ty cs := (heap_setCell_other w a g v ha).trans h
theorem Bxo.only (h : Bxo w g ty cs) (ho : Only g' w w') (hg : g ≠ g') : Bxo w' g ty cs := (ho.block g hg).trans h
theorem Only.refl : Only g w w := ⟨rfl, rfl, rfl, rfl, fun _ _ => rfl⟩
theorem Only.trans (h : Only g w w') (h' : Only g w' w'') : Only g w w'' := ⟨h'.os.trans h.os, h'.tape.trans h.tape, h'.output.trans h.output, h'.size.trans h.size, fun k hk => (h'.block k hk).trans (h.block k hk)⟩
theorem Only.below (h : Only g w w') (hB : B ≤ g) : Below B w w' := ⟨h.os, h.tape, h.output, Nat.le_of_eq h.size.symm, fun k hk => h.block k (by omega)⟩
theorem Only.drew (h : Only g w w') : Only g w w'.drew := ⟨h.os, h.tape, h.output, h.size, h.block⟩
theorem Only.set (h : Only g w w') (j : Nat) (v : Value) : Only g w (w'.setCell ⟨g, j, none⟩ v) := ⟨h.os, h.tape, h.output, by rw [← h.size]; simp, fun k hk => (heap_setCell_other w' ⟨g, j, none⟩ k v hk).trans (h.block k hk)⟩
end
/-- cells from a place on, replaced. -/
def spl : List Value → Nat → List Value → List Value
  | cs, _, [] => cs
  | cs, o, v :: r => spl (cs.set o v) (o + 1) r
theorem spl_length : ∀ (vs : List Value) (cs : List Value) (o : Nat), (spl cs o vs).length = cs.length
  | [], _, _ => rfl
  | v :: r, cs, o => by rw [spl, spl_length r]; simp
theorem Bxo.setCells {g : Nat} {ty : TypeId} : ∀ (vs : List Value) (o : Nat) (cs : List Value) (w : World), Bxo w g ty cs → Bxo (w.setCells g o vs) g ty (spl cs o vs) ∧ Only g w (w.setCells g o vs)
  | [], _, _, _, h => ⟨h, Only.refl⟩
  | v :: r, o, cs, w, h => by
    have := Bxo.setCells r (o + 1) (cs.set o v) _ (h.set o v)
    exact ⟨this.1, (Only.refl.set o v).trans this.2⟩
section
variable {P : Program}
/-- the walk's load of a whole block; its store; a store of several cells in the middle. -/
theorem wpList_load_box {ops : Array Oper} {rest : List Oper} {op : Oper} {a : Act} {w : World} {Q : Exit → Act → World → Prop} (hgd : Region.wanted op (yielded ops a.tmps) = true) (ty : TypeId) (x : Operand) (ho : op.op = .load ty x)
    (g : Nat) (hx : a.eval x = .pointer (some ⟨g, 0, none⟩)) (cs : List Value) (d : TypeDesc) (hc : Bxo w g ty cs)
    (hu : P.underlying ty = some d) (hd : d.isRow = true) (hi : (P.info? ty).map (·.size) = some cs.length)
    (h : wpList P ops Q rest (a.put op.dst (.agg cs.toArray)) w) : wpList P ops Q (op :: rest) a w :=
  wpList_load_at hgd ty x ho _ hx cs d hc.at hu hd hi h
theorem run_storeVar_box (w : World) (g o : Nat) (ty sty : TypeId) (cs vs : List Value) (hc : Bxo w g ty cs) (hi : (P.info? sty).map (·.size) = some vs.length) (ho : o + vs.length ≤ cs.length) (h1 : vs.toArray.all (·.oneCell') = true) :
    (storeVar sty ⟨g, o, none⟩ (.agg vs.toArray)).run P w = .ok () (w.setCells g o vs) :=
  run_storeVar_mid w g o sty vs.toArray (fun j hj => ⟨by rw [hc.cell (o + j) (List.getElem?_eq_getElem (Nat.lt_of_lt_of_le (Nat.add_lt_add_left (show j < vs.length from by simpa using hj) o) ho))]; rfl, hc.frozen _⟩) (by simpa using hi) h1
theorem wpList_store_box {ops : Array Oper} {rest : List Oper} {op : Oper} {a : Act} {w : World} {Q : Exit → Act → World → Prop} (hgd : Region.wanted op (yielded ops a.tmps) = true) (sty : TypeId) (x y : Operand) (ho : op.op = .store sty x y)
    (g o : Nat) (ty : TypeId) (cs vs : List Value) (hx : a.eval x = .pointer (some ⟨g, o, none⟩)) (hy : a.eval y = .agg vs.toArray) (hc : Bxo w g ty cs)
    (hi : (P.info? sty).map (·.size) = some vs.length) (hs : o + vs.length ≤ cs.length) (h1 : vs.toArray.all (·.oneCell') = true)
    (h : ∀ w', Bxo w' g ty (spl cs o vs) → Only g w w' → wpList P ops Q rest (a.put op.dst undef) w') : wpList P ops Q (op :: rest) a w :=
  BigFrame.wpList_want hgd fun _ hK => by
    unfold Oper.wp execOp
    simp only [ho, hx, hy, Instr.storeAt, Instr.sureAddr, Sem.run_bind, Sem.run_pure, Result.andThen_ok, run_storeVar_box w g o ty sty cs vs hc hi hs h1]
    obtain ⟨h2, h3⟩ := Bxo.setCells vs o cs w hc
    exact hK _ _ (h _ h2 h3)
/-- .. of a region that draws: one step of it. -/
theorem step_store_box {op : Oper} {a : Act} {w : World} {K : Act → World → Prop} {Q : Exit → Act → World → Prop} (sty : TypeId) (x y : Operand) (ho : op.op = .store sty x y)
    (g o : Nat) (ty : TypeId) (cs vs : List Value) (hx : a.eval x = .pointer (some ⟨g, o, none⟩)) (hy : a.eval y = .agg vs.toArray) (hc : Bxo w g ty cs)
    (hi : (P.info? sty).map (·.size) = some vs.length) (hs : o + vs.length ≤ cs.length) (h1 : vs.toArray.all (·.oneCell') = true)
    (h : ∀ w', Bxo w' g ty (spl cs o vs) → Only g w w' → K (a.put op.dst undef) w') : op.wp P a w K Q := by
  unfold Oper.wp execOp
  simp only [ho, hx, hy, Instr.storeAt, Instr.sureAddr, Sem.run_bind, Sem.run_pure, Result.andThen_ok, run_storeVar_box w g o ty sty cs vs hc hi hs h1]
  obtain ⟨h2, h3⟩ := Bxo.setCells vs o cs w hc
  exact h _ h2 h3
end
theorem below_alloc {w0 w : World} {B : Nat} (h : Below B w0 w) (hB : B ≤ w.heap.size) (o : Obj) : Below B w0 (w.alloc o) := h.trans ((Below.refl _ _).alloc hB _)
end Go.Proofs.Ytofpalmghdapkaa

/- Structs of many cells: stores of whatever value, as steps; loads out of the middle. No condition. -/
namespace Go.Proofs.Ytofpalmghdapkaa
open Go.ChangeShapes Go.WideShapes Go.ChangeAt Go.RowKit
set_option linter.unusedVariables false

section
variable {P : Program}
theorem run_storeVar_any (w : World) (g o : Nat) (ty sty : TypeId) (cs vs : List Value) (v : Value) (hv : v.cells = vs.toArray) (hc : Bxo w g ty cs) (hi : (P.info? sty).map (·.size) = some vs.length) (ho : o + vs.length ≤ cs.length) (h1 : ∀ u ∈ vs, u.oneCell' = true) :
    (storeVar sty ⟨g, o, none⟩ v).run P w = .ok () (w.setCells g o vs) := by
  have := run_storeCells_cells (P := P) g o vs 0 w (fun j hj => by simp only [Nat.add_zero]; rw [hc.cell (o + j) (List.getElem?_eq_getElem (Nat.lt_of_lt_of_le (Nat.add_lt_add_left hj o) ho))]; rfl) (fun j hj => hc.frozen _) h1
  cases hq : P.info? sty with
  | none => simp [hq] at hi
  | some i =>
    have hs : vs.length = i.size := by simp [hq] at hi; omega
    simp only [Nat.add_zero] at this
    simp [storeVar, sizeOf, typeInfo, hq, hv, hs, this]
theorem wpList_store_any {ops : Array Oper} {rest : List Oper} {op : Oper} {a : Act} {w : World} {Q : Exit → Act → World → Prop} (hgd : Region.wanted op (yielded ops a.tmps) = true) (sty : TypeId) (x y : Operand) (ho : op.op = .store sty x y)
    (g o : Nat) (ty : TypeId) (cs vs : List Value) (v : Value) (hx : a.eval x = .pointer (some ⟨g, o, none⟩)) (hy : a.eval y = v) (hv : v.cells = vs.toArray) (hc : Bxo w g ty cs)
    (hi : (P.info? sty).map (·.size) = some vs.length) (hs : o + vs.length ≤ cs.length) (h1 : ∀ u ∈ vs, u.oneCell' = true)
    (h : ∀ w', Bxo w' g ty (spl cs o vs) → Only g w w' → wpList P ops Q rest (a.put op.dst undef) w') : wpList P ops Q (op :: rest) a w :=
  BigFrame.wpList_want hgd fun _ hK => by
    unfold Oper.wp execOp
    simp only [ho, hx, hy, Instr.storeAt, Instr.sureAddr, Sem.run_bind, Sem.run_pure, Result.andThen_ok, run_storeVar_any w g o ty sty cs vs v hv hc hi hs h1]
    obtain ⟨h2, h3⟩ := Bxo.setCells vs o cs w hc
    exact hK _ _ (h _ h2 h3)
theorem step_store_any {op : Oper} {a : Act} {w : World} {K : Act → World → Prop} {Q : Exit → Act → World → Prop} (sty : TypeId) (x y : Operand) (ho : op.op = .store sty x y)
    (g o : Nat) (ty : TypeId) (cs vs : List Value) (v : Value) (hx : a.eval x = .pointer (some ⟨g, o, none⟩)) (hy : a.eval y = v) (hv : v.cells = vs.toArray) (hc : Bxo w g ty cs)
    (hi : (P.info? sty).map (·.size) = some vs.length) (hs : o + vs.length ≤ cs.length) (h1 : ∀ u ∈ vs, u.oneCell' = true)
    (h : ∀ w', Bxo w' g ty (spl cs o vs) → Only g w w' → K (a.put op.dst undef) w') : op.wp P a w K Q := by
  unfold Oper.wp execOp
  simp only [ho, hx, hy, Instr.storeAt, Instr.sureAddr, Sem.run_bind, Sem.run_pure, Result.andThen_ok, run_storeVar_any w g o ty sty cs vs v hv hc hi hs h1]
  obtain ⟨h2, h3⟩ := Bxo.setCells vs o cs w hc
  exact h _ h2 h3
theorem Bxo.mid {w : World} {g : Nat} {ty : TypeId} {cs : List Value} (h : Bxo w g ty cs) (o : Nat) (vs : List Value) (hs : ∀ j v, vs[j]? = some v → cs[o + j]? = some v) : ∀ j v, vs[j]? = some v → w.cell? ((⟨g, o, none⟩ : Addr).add j) = some v := fun j v hj => by
  rw [Addr.add_mid]; exact h.cell _ (hs j v hj)
theorem sub_get {cs vs : List Value} {o : Nat} (h : (cs.drop o).take vs.length = vs) : ∀ j v, vs[j]? = some v → cs[o + j]? = some v := fun j v hj => by
  rw [← List.getElem?_drop]
  have hl := (List.getElem?_eq_some_iff.1 hj).1
  rw [← h, List.getElem?_take, if_pos hl] at hj
  exact hj
theorem step_load_at {op : Oper} {a : Act} {w : World} {K : Act → World → Prop} {Q : Exit → Act → World → Prop} (ty : TypeId) (x : Operand) (ho : op.op = .load ty x)
    (ad : Addr) (hx : a.eval x = .pointer (some ad)) (cs : List Value) (d : TypeDesc) (hc : ∀ j v, cs[j]? = some v → w.cell? (ad.add j) = some v)
    (hu : P.underlying ty = some d) (hd : d.isRow = true) (hi : (P.info? ty).map (·.size) = some cs.length)
    (h : K (a.put op.dst (.agg cs.toArray)) w) : op.wp P a w K Q := by
  unfold Oper.wp execOp
  simp only [ho, hx, Instr.loadAt, Instr.sureAddr, Sem.run_bind, Sem.run_pure, Result.andThen_ok, run_loadVar_at w ad ty cs d hc hu hd hi]
  exact h
end
theorem zero_of {P : Program} {ty : TypeId} {z : Value} (h : (P.info? ty).map (·.zero) = some (some z)) (w : World) : (zeroValue ty).run P w = .ok z w := by
  obtain ⟨i, hi, hz⟩ := Option.map_eq_some_iff.1 h
  simp [zeroValue, typeInfo, hi, hz]
theorem step_alloc {P : Program} {op : Oper} {a : Act} {w : World} {K : Act → World → Prop} {Q : Exit → Act → World → Prop} (ty : TypeId) (ho : op.op = .alloc ty) (z : List Value) (hz : (P.info? ty).map (·.zero) = some (some (.agg z.toArray)))
    (h : ∀ g w', (g ≤ w.heap.size ∧ w.heap.size ≤ g) → Bxo w' g ty z → Below w.heap.size w w' → (w'.heap.size ≤ w.heap.size + 1 ∧ w.heap.size + 1 ≤ w'.heap.size) → K (a.put op.dst (.pointer (some ⟨g, 0, none⟩))) w') : op.wp P a w K Q := by
  have hr : (Instr.alloc ty true (.tuple #[])).run P w = .ok (.pointer (some ⟨w.heap.size, 0, none⟩)) (w.alloc (.cells z.toArray ty)) := by
    simp [Instr.alloc, zero_of hz, newVar, newRow, Value.cells]
  unfold Oper.wp execOp
  simp only [ho, Sem.run_bind, Sem.run_pure, Result.andThen_ok, hr]
  exact h _ _ ⟨Nat.le_refl _, Nat.le_refl _⟩ (Bxo.made w ty z) ((Below.refl _ _).alloc (Nat.le_refl _) _) (by simp)
end Go.Proofs.Ytofpalmghdapkaa

/- Tuples as values: their cells; two that are compared. -/
namespace Go.Proofs.Ytofpalmghdapkaa
open Go.ChangeShapes Go.WideShapes Go.ChangeAt Go.RowKit
set_option linter.unusedVariables false
set_option linter.unusedSimpArgs false

abbrev tpL (t : Tp) : List Value := [.int .i64 t.proto, .int .u32 t.src, .int .i64 t.sport, .int .u32 t.dst, .int .i64 t.dport]
abbrev tpV (t : Tp) : Value := .agg #[.int .i64 t.proto, .int .u32 t.src, .int .i64 t.sport, .int .u32 t.dst, .int .i64 t.dport]
abbrev oTp (t : Tp) : Obj := .cells #[.int .i64 t.proto, .int .u32 t.src, .int .i64 t.sport, .int .u32 t.dst, .int .i64 t.dport] 38
theorem info_tp : (Try.prog.info? 38).map (·.size) = some 5 := by kernel_rfl
theorem tp_one (t : Tp) : ∀ u ∈ tpL t, u.oneCell' = true := by simp [Value.oneCell']
theorem eqInTpD (d : Nat) (m n : Tp) (w : World) : (Op.equalIn (d + 1 + 1) 38 (tpV m) (tpV n)).run Try.prog w = .ok (sameTp m n) w := by
  have hS : Try.prog.underlying 38 = some (.struct (Try.prog.fieldsOf 38)) := by kernel_rfl
  have hp : Try.prog.stoodInHeld 38 = false := by kernel_rfl
  have u3 := Try.underlying3
  have u4 := Try.underlying36
  have a3 := Try.isAgg3
  have z3 := Try.sizeOf3
  have a4 := Try.isAgg36
  have z4 := Try.sizeOf36
  rw [run_equalIn_agg w (d + 1) 38 _ _ hS hp]
  simp only [Program.fieldsOf, Try.underlying38]
  obtain ⟨m1, m2, m3, m4, m5⟩ := m
  obtain ⟨n1, n2, n3, n4, n5⟩ := n
  unfold sameTp
  go_simp
  by_cases h1 : m1 = n1 <;> by_cases h2 : m2 = n2 <;> by_cases h3 : m3 = n3 <;> by_cases h4 : m4 = n4 <;> by_cases h5 : m5 = n5 <;> simp [h1, h2, h3, h4, h5]
theorem eqInTp (m n : Tp) (w : World) : (Op.equalIn 10000 38 (tpV m) (tpV n)).run Try.prog w = .ok (sameTp m n) w := eqInTpD 9998 m n w
theorem eqTp (m n : Tp) (w : World) : (binOp .eql 38 (tpV m) (tpV n)).run Try.prog w = .ok (.bool (sameTp m n)) w := by
  rw [run_eql_struct, eqInTp]; rfl
theorem neTp (m n : Tp) (w : World) : (binOp .neq 38 (tpV m) (tpV n)).run Try.prog w = .ok (.bool (!sameTp m n)) w := by
  rw [run_neq_struct, eqInTp]; rfl
end Go.Proofs.Ytofpalmghdapkaa

/- Rows of elements of several cells: of a call's own, read, appended to. -/
namespace Go.Proofs.Ytofpalmghdapkaa
open Go.ChangeShapes Go.WideShapes Go.ChangeAt Go.RowKit
set_option linter.unusedVariables false
set_option linter.unusedSimpArgs false

section
variable {α : Type} (L : α → List Value) (k : Nat) (hL : ∀ x, (L x).length = k)
include hL
theorem flat_len : ∀ es : List α, (es.flatMap L).length = es.length * k
  | [] => by simp
  | e :: t => by simp only [List.flatMap_cons, List.length_append, hL, flat_len t, List.length_cons]; rw [Nat.succ_mul, Nat.add_comm]
theorem flat_take : ∀ (es : List α) (j : Nat), (es.flatMap L).take (j * k) = (es.take j).flatMap L
  | [], j => by simp
  | e :: t, 0 => by simp
  | e :: t, j + 1 => by
    rw [List.flatMap_cons, List.take_succ_cons, List.flatMap_cons, List.take_append, hL, List.take_of_length_le (by rw [hL, Nat.succ_mul]; omega), ← flat_take t j]
    congr 2
    rw [Nat.succ_mul]; omega
theorem flat_drop : ∀ (es : List α) (j : Nat), (es.flatMap L).drop (j * k) = (es.drop j).flatMap L
  | [], j => by simp
  | e :: t, 0 => by simp
  | e :: t, j + 1 => by
    rw [List.flatMap_cons, List.drop_succ_cons, List.drop_append, hL, List.drop_eq_nil_of_le (by rw [hL, Nat.succ_mul]; omega), List.nil_append, ← flat_drop t j]
    congr 1
    rw [Nat.succ_mul]; omega
theorem flat_get (es : List α) (j i : Nat) (hj : j < es.length) (hi : i < k) : (es.flatMap L)[j * k + i]? = (L es[j])[i]? := by
  rw [← List.getElem?_drop, flat_drop L k hL, List.drop_eq_getElem_cons hj, List.flatMap_cons, List.getElem?_append_left (by rw [hL]; exact hi)]
end
/-- cells replaced from a place on. -/
theorem set_eq {α : Type} : ∀ (l : List α) (o : Nat) (v : α), o < l.length → l.set o v = l.take o ++ v :: l.drop (o + 1)
  | [], _, _, h => by simp at h
  | a :: t, 0, v, _ => by simp
  | a :: t, o + 1, v, h => by simp [set_eq t o v (by simpa using h)]
theorem spl_eq : ∀ (vs cs : List Value) (o : Nat), o + vs.length ≤ cs.length → spl cs o vs = cs.take o ++ vs ++ cs.drop (o + vs.length)
  | [], cs, o, _ => by simp [spl]
  | v :: r, cs, o, h => by
    simp only [List.length_cons] at h
    have ho : o < cs.length := by omega
    rw [spl, spl_eq r _ _ (by simp; omega), set_eq cs o v ho]
    have e1 : (cs.take o ++ v :: cs.drop (o + 1)).take (o + 1) = cs.take o ++ [v] := by
      rw [List.take_append, List.take_of_length_le (by rw [List.length_take]; omega), List.length_take, Nat.min_eq_left (by omega), show o + 1 - o = 1 by omega]
      rfl
    have e2 : (cs.take o ++ v :: cs.drop (o + 1)).drop (o + 1 + r.length) = cs.drop (o + (v :: r).length) := by
      rw [List.drop_append, List.length_take, Nat.min_eq_left (by omega), List.drop_eq_nil_of_le (by rw [List.length_take]; omega), List.nil_append]
      rw [show o + 1 + r.length - o = r.length + 1 by omega, List.drop_succ_cons, List.drop_drop]
      congr 1; simp; omega
    rw [e1, e2]; simp
theorem spl_take (vs cs : List Value) (o n : Nat) (h : o + vs.length ≤ n) (hn : n ≤ cs.length) : (spl cs o vs).take n = spl (cs.take n) o vs := by
  rw [spl_eq vs cs o (by omega), spl_eq vs (cs.take n) o (by rw [List.length_take]; omega)]
  rw [List.take_append, List.take_of_length_le (by rw [List.length_append, List.length_take]; omega), List.length_append, List.length_take, Nat.min_eq_left (by omega), List.take_take, Nat.min_eq_left (by omega), List.drop_take]
theorem spl_flat {α : Type} (L : α → List Value) (k : Nat) (hL : ∀ x, (L x).length = k) (es : List α) (j : Nat) (e : α) (hj : j < es.length) : spl (es.flatMap L) (j * k) (L e) = (es.set j e).flatMap L := by
  have hl := flat_len L k hL es
  have h1 : j * k + k ≤ es.length * k := by rw [← Nat.succ_mul]; exact Nat.mul_le_mul_right k hj
  rw [spl_eq _ _ _ (by rw [hL, hl]; exact h1), hL, set_eq es j e hj, List.flatMap_append, List.flatMap_cons, flat_take L k hL, ← Nat.succ_mul, flat_drop L k hL, List.append_assoc]
/-- a row of the call's own, opened; a store into it. -/
theorem own_open {w : World} {base : Nat} {e : TypeId} {size g n c : Nat} {xs : List Value} (h : w.ownsRow base e size (.slice (some ⟨g, 0, none⟩) n c) n xs) :
    ∃ cur, Bxo w g e cur ∧ cur.length = c * size ∧ cur.take (n * size) = xs ∧ base ≤ g ∧ n ≤ c ∧ c ≤ maxLen ∧ xs.length = n * size := by
  rcases h.2 with ⟨h', _⟩ | ⟨g', cap, cur, hv, hb, hh, hn, hm, hs, ht⟩
  · cases h'
  · injection hv with h1 h2 h3
    subst h3
    injection h1 with h1
    injection h1 with h1
    subst h1
    exact ⟨cur.toList, by unfold Bxo; simpa using hh, by simpa using hs, by simpa using ht, hb, hn, hm, h.1⟩
theorem own_shut {w : World} {base : Nat} {e : TypeId} {size g n c : Nat} {xs cur : List Value} (hb : Bxo w g e cur) (h1 : cur.length = c * size) (h2 : cur.take (n * size) = xs) (h3 : base ≤ g) (h4 : n ≤ c) (h5 : c ≤ maxLen) (h6 : xs.length = n * size) :
    w.ownsRow base e size (.slice (some ⟨g, 0, none⟩) n c) n xs :=
  ⟨h6, .inr ⟨g, c, cur.toArray, rfl, h3, hb, h4, h5, by simpa using h1, by simpa using h2⟩⟩
theorem own_keep {w w' : World} {base : Nat} {e : TypeId} {size g n c : Nat} {xs : List Value} (h : w.ownsRow base e size (.slice (some ⟨g, 0, none⟩) n c) n xs) (hh : w'.heap[g]? = w.heap[g]?) : w'.ownsRow base e size (.slice (some ⟨g, 0, none⟩) n c) n xs := by
  obtain ⟨cur, a1, a2, a3, a4, a5, a6, a7⟩ := own_open h
  exact own_shut (hh.trans a1) a2 a3 a4 a5 a6 a7
theorem own_spl {w w' : World} {base : Nat} {e : TypeId} {size g n c : Nat} {xs cur vs : List Value} {o : Nat} (h : w.ownsRow base e size (.slice (some ⟨g, 0, none⟩) n c) n xs) (hc : Bxo w g e cur) (ho : o + vs.length ≤ n * size) (hb : Bxo w' g e (spl cur o vs)) :
    w'.ownsRow base e size (.slice (some ⟨g, 0, none⟩) n c) n (spl xs o vs) := by
  obtain ⟨cur', a1, a2, a3, a4, a5, a6, a7⟩ := own_open h
  have e : cur' = cur := by
    have := a1.symm.trans hc
    simpa using this
  subst e
  have hle : n * size ≤ cur'.length := by rw [a2]; exact Nat.mul_le_mul_right size a5
  exact own_shut hb (by rw [spl_length]; exact a2) (by rw [spl_take vs cur' o _ ho hle, a3]) a4 a5 a6 (by rw [spl_length]; exact a7)
/-- the slice at A reads as these cells. -/
def RdC (w : World) (A : Option Addr) (cs : List Value) : Prop := cs = [] ∨ ∃ ad, A = some ad ∧ ∀ (j : Nat) (u : Value), cs[j]? = some u → w.cell? (ad.add j) = some u
theorem RdC.keep {w w' : World} {A : Option Addr} {cs : List Value} (h : RdC w A cs) (hb : Below w.heap.size w w') : RdC w' A cs := by
  rcases h with h | ⟨ad, e, hc⟩
  · exact .inl h
  · refine .inr ⟨ad, e, fun j u hj => ?_⟩
    have := hc j u hj
    rw [← this]
    exact hb.cell (World.block_lt_of_cell? w _ this)
theorem wpList_append_rdK {P : Program} {w : World} {ops : Array Oper} {rest : List Oper} {o : Oper} {a : Act} {Q : Exit → Act → World → Prop} (hgd : o.guard = none) (s x : Operand) (t : TypeId)
    (ho : o.op = .call { callee := .builtin .append, args := #[s, x], argTypes := #[t, t] })
    (base : Nat) (e : TypeId) (i : TypeInfo) (z : Value) (k bytes : Nat) (ht : P.underlying t = some (.slice e)) (hi : P.info? e = some i) (hz : i.zero = some z)
    (hsize : i.size = k) (hby : i.bytes = bytes) (hzs : z.cells.size = k) (hk : 0 < k)
    (v : Value) (n : Nat) (xs : List Value) (hs : a.eval s = v) (hown : w.ownsRow base e k v n xs)
    (A : Option Addr) (m c : Nat) (news : List Value) (hx : a.eval x = .slice A m c) (hm : news.length = m * k) (hc : A = none → c = 0 ∧ m = 0) (hr : RdC w A news) (h1 : ∀ u ∈ news, u.oneCell' = true)
    (h63 : n + m ≤ maxLen) (hbytes : (n + m) * bytes ≤ 140737488355328) (hbase : base ≤ w.heap.size)
    (h : ∀ v' w', w'.ownsRow base e k v' (n + m) (xs ++ news) → w.grownBy w' v.ownBlock → (v'.ownBlock = v.ownBlock ∨ v'.ownBlock = some w.heap.size) → wpList P ops Q rest (a.put o.dst v') w') :
    wpList P ops Q (o :: rest) a w := by
  rcases A with _ | ad
  · obtain ⟨rfl, rfl⟩ := hc rfl
    have hn : news = [] := List.eq_nil_of_length_eq_zero (by simpa using hm)
    subst hn
    exact wpList_append_own_none hgd s x t ho base e i k ht hi v n xs hs hown hx (h v w (by simpa using hown) (World.grownBy.refl w _) (.inl rfl))
  · refine wpList_append_own_at w hgd s x t ho base e i z k bytes ht hi hz hsize hby hzs hk v n xs hs hown ad m c news hx (by omega) ?_ h1 h63 hbytes hbase (fun v' w' g1 g2 _ g4 => h v' w' g1 g2 g4)
    intro j u hj
    rcases hr with h | ⟨ad', h', hcell⟩
    · subst h; simp at hj
    · cases h'; exact hcell j u hj
theorem wpList_copy_rdK {P : Program} {w : World} {ops : Array Oper} {rest : List Oper} {o : Oper} {a : Act} {Q : Exit → Act → World → Prop} (hgd : o.guard = none) (s x : Operand) (t : TypeId)
    (ho : o.op = .call { callee := .builtin .append, args := #[s, x], argTypes := #[t, t] })
    (e : TypeId) (i : TypeInfo) (z : Value) (k bytes : Nat) (ht : P.underlying t = some (.slice e)) (hi : P.info? e = some i) (hz : i.zero = some z)
    (hsize : i.size = k) (hby : i.bytes = bytes) (hzs : z.cells.size = k) (hk : 0 < k) (hs : a.eval s = .slice (some ⟨w.heap.size, 0, none⟩) 0 0)
    (A : Option Addr) (m c : Nat) (news : List Value) (hx : a.eval x = .slice A m c) (hm : news.length = m * k) (hc : A = none → c = 0 ∧ m = 0) (hr : RdC w A news) (h1 : ∀ u ∈ news, u.oneCell' = true)
    (h63 : m ≤ maxLen) (hbytes : m * bytes ≤ 140737488355328)
    (h : ∀ v' w', w'.ownsRow w.heap.size e k v' m news → Below w.heap.size w w' → wpList P ops Q rest (a.put o.dst v') w') :
    wpList P ops Q (o :: rest) a (w.alloc (.cells #[] e)) := by
  refine wpList_append_rdK hgd s x t ho w.heap.size e i z k bytes ht hi hz hsize hby hzs hk _ 0 [] hs (World.ownsRow_made w #[] 0 (Nat.le_refl _) (by unfold maxLen; omega) (by simp)) A m c news hx hm hc (hr.keep ((Below.refl _ _).alloc (Nat.le_refl _) _)) h1 (by simpa using h63) (by simpa using hbytes) (by simp) ?_
  intro v' w' hown hg hat
  rw [Nat.zero_add, List.nil_append] at hown
  exact h v' w' hown (((Below.refl _ _).alloc (Nat.le_refl _) _).grown hg (by simp) (fun k hk => by simp [Value.ownBlock] at hk; omega))
/-- a copy of a row. -/
def CopiedK (w0 : World) (e : TypeId) (k n : Nat) (cs : List Value) (x : Ending) (w : World) : Prop := ∃ A c, x = .returned (.slice A n c) ∧ w.ownsRow w0.heap.size e k (.slice A n c) n cs ∧ Below w0.heap.size w0 w
theorem own_slice {w : World} {base : Nat} {e : TypeId} {k : Nat} {v : Value} {n : Nat} {xs : List Value} (h : w.ownsRow base e k v n xs) : ∃ A c, v = .slice A n c := by
  rcases h.2 with ⟨rfl, rfl⟩ | ⟨g, cap, cur, rfl, _⟩
  · exact ⟨_, _, rfl⟩
  · exact ⟨_, _, rfl⟩
theorem own_none (w : World) (base : Nat) (e : TypeId) (k : Nat) : w.ownsRow base e k (.slice none 0 0) 0 [] := ⟨by simp, .inl ⟨rfl, rfl⟩⟩
/-- one block may have turned, others were added. -/
structure Gro (g : Nat) (w w' : World) : Prop where
  os : w'.os = w.os
  tape : w'.tape = w.tape
  output : w'.output = w.output
  size : w.heap.size ≤ w'.heap.size
  block : ∀ k, k < w.heap.size → k ≠ g → w'.heap[k]? = w.heap[k]?
section
variable {g B : Nat} {w w' w'' : World} {ty : TypeId} {cs : List Value}
theorem Gro.refl : Gro g w w := ⟨rfl, rfl, rfl, Nat.le_refl _, fun _ _ _ => rfl⟩
theorem Gro.trans (h : Gro g w w') (k : Gro g w' w'') : Gro g w w'' := ⟨k.os.trans h.os, k.tape.trans h.tape, k.output.trans h.output, Nat.le_trans h.size k.size, fun i hi hg => (k.block i (Nat.lt_of_lt_of_le hi h.size) hg).trans (h.block i hi hg)⟩
theorem Only.gro (h : Only g w w') : Gro g w w' := ⟨h.os, h.tape, h.output, Nat.le_of_eq h.size.symm, fun k _ hk => h.block k hk⟩
theorem gro_below (h : Below w.heap.size w w') : Gro g w w' := ⟨h.os, h.tape, h.output, h.size, fun k hk _ => h.block k hk⟩
theorem gro_grown (h : w.grownBy w' (some g)) : Gro g w w' := ⟨h.os, h.tape, h.output, h.size, fun k hk hg => h.block k hk (fun e => hg (by injection e))⟩
theorem Gro.below (h : Gro g w w') (hB : B ≤ g) (hs : B ≤ w.heap.size) : Below B w w' := ⟨h.os, h.tape, h.output, h.size, fun k hk => h.block k (by omega) (by omega)⟩
theorem Bxo.gro {g' : Nat} (h : Bxo w g' ty cs) (hg : Gro g w w') (hne : g' ≠ g) : Bxo w' g' ty cs := (hg.block g' h.lt hne).trans h
end
def blk (A : Option Addr) : Option Nat := A.map Addr.block
theorem own_none_any {w w' : World} {base base' : Nat} {e : TypeId} {size n c : Nat} {xs : List Value} (h : w.ownsRow base e size (.slice none n c) n xs) : w'.ownsRow base' e size (.slice none n c) n xs := by
  refine ⟨h.1, ?_⟩
  rcases h.2 with h | ⟨g, cap, cur, hv, _⟩
  · exact .inl h
  · cases hv
theorem own_addr {w : World} {base : Nat} {e : TypeId} {size n c : Nat} {A : Option Addr} {xs : List Value} (h : w.ownsRow base e size (.slice A n c) n xs) : (A = none ∧ n = 0 ∧ c = 0) ∨ ∃ g, A = some ⟨g, 0, none⟩ ∧ base ≤ g ∧ g < w.heap.size := by
  rcases h.2 with ⟨h, h'⟩ | ⟨g, cap, cur, hv, hb, hh, _⟩
  · injection h with a b c
    exact .inl ⟨a, h', c⟩
  · injection hv with a b c
    exact .inr ⟨g, a, hb, (Array.getElem?_eq_some_iff.1 hh).1⟩
theorem own_keepA {w w' : World} {base : Nat} {e : TypeId} {size n c : Nat} {A : Option Addr} {xs : List Value} (h : w.ownsRow base e size (.slice A n c) n xs) (hk : ∀ g, blk A = some g → w'.heap[g]? = w.heap[g]?) : w'.ownsRow base e size (.slice A n c) n xs := by
  rcases own_addr h with ⟨rfl, _⟩ | ⟨g, rfl, _⟩
  · exact own_none_any h
  · exact own_keep h (hk g rfl)
theorem own_base {w : World} {base base' : Nat} {e : TypeId} {size n c : Nat} {A : Option Addr} {xs : List Value} (h : w.ownsRow base e size (.slice A n c) n xs) (hb : base' ≤ base) : w.ownsRow base' e size (.slice A n c) n xs := by
  refine ⟨h.1, ?_⟩
  rcases h.2 with h | ⟨g, cap, cur, hv, h1, h2⟩
  · exact .inl h
  · exact .inr ⟨g, cap, cur, hv, Nat.le_trans hb h1, h2⟩
theorem own_cap {w : World} {base : Nat} {e : TypeId} {size n c : Nat} {A : Option Addr} {xs : List Value} (h : w.ownsRow base e size (.slice A n c) n xs) : n ≤ c ∧ c ≤ maxLen := by
  rcases h.2 with ⟨h, h'⟩ | ⟨g, cap, cur, hv, hb, hh, h1, h2, _⟩
  · injection h with a b c'; subst c'; subst h'; exact ⟨Nat.le_refl _, by unfold maxLen; omega⟩
  · injection hv with a b c'; subst c'; exact ⟨h1, h2⟩
theorem own_cells {w : World} {base : Nat} {e : TypeId} {size g n c : Nat} {xs : List Value} (h : w.ownsRow base e size (.slice (some ⟨g, 0, none⟩) n c) n xs) (j : Nat) (hj : j < n * size) : w.cell? ⟨g, j, none⟩ = xs[j]? := h.cellAt j hj
theorem ownBlock_blk (A : Option Addr) (n c : Nat) : (Value.slice A n c).ownBlock = blk A := by cases A <;> rfl
theorem add_at (ad : Addr) (k i : Nat) (h : 0 < i) : ad.add (k + i) = { block := (ad.add k).block, off := (ad.add k).off + i } := by
  unfold Addr.add
  by_cases hk : k = 0
  · subst hk; simp [Nat.ne_of_gt h]
  · simp [hk, Nat.add_assoc]
theorem at_off {w : World} {ad : Addr} {k : Nat} {v : Value} (i : Nat) (h : w.cell? (ad.add (k + i)) = some v) (hi : 0 < i) : w.cell? { block := (ad.add k).block, off := (ad.add k).off + i } = some v := by
  rw [← add_at ad k i hi]; exact h
/- a pool as a value, and in memory. -/
theorem add_add (ad : Addr) (k j : Nat) : (ad.add k).add j = ad.add (k + j) := by
  by_cases h : j = 0
  · subst h; simp [Addr.add]
  · rw [add_at ad k j (by omega)]; unfold Addr.add; simp [h]
theorem list_cells {w : World} {ad : Addr} {cs : List Value} (h : ∀ j (hj : j < cs.length), w.cell? (ad.add j) = some cs[j]) : ∀ j v, cs[j]? = some v → w.cell? (ad.add j) = some v := fun j v hv => by
  obtain ⟨hj, rfl⟩ := List.getElem?_eq_some_iff.1 hv
  exact h j hj
/-- a row that was made: its elements are all nothing. -/
theorem flat_made {α : Type} (L : α → List Value) (k : Nat) (hL : ∀ x, (L x).length = k) (hk : 0 < k) (e0 : α) (m : Nat) : (madeCells (L e0).toArray (m * k)).toList = (List.replicate m e0).flatMap L := by
  unfold madeCells
  refine List.ext_getElem? fun j => ?_
  by_cases hj : j < m * k
  · have h1 : j / k < m := (Nat.div_lt_iff_lt_mul hk).2 hj
    have h2 : j % k < k := Nat.mod_lt _ hk
    have h3 := flat_get L k hL (List.replicate m e0) (j / k) (j % k) (by simpa using h1) h2
    rw [show j / k * k + j % k = j by rw [Nat.mul_comm]; exact Nat.div_add_mod j k] at h3
    rw [h3]
    have h4 : j % k < (L e0).length := by rw [hL]; exact h2
    simp [hj, List.getElem?_eq_getElem h4]
    rw [hL, List.getElem?_eq_getElem h4]
    rfl
  · have hl := flat_len L k hL (List.replicate m e0)
    rw [List.length_replicate] at hl
    rw [List.getElem?_eq_none (by rw [Array.length_toList, Array.size_map, Array.size_range]; omega), List.getElem?_eq_none (by rw [hl]; omega)]
theorem own_rd {w : World} {base : Nat} {e : TypeId} {size n c : Nat} {A : Option Addr} {xs : List Value} (h : w.ownsRow base e size (.slice A n c) n xs) : RdC w A xs := by
  rcases own_addr h with ⟨rfl, hz, _⟩ | ⟨g, rfl, _, _⟩
  · have := h.1
    rw [hz, Nat.zero_mul] at this
    exact .inl (List.eq_nil_of_length_eq_zero this)
  · refine .inr ⟨_, rfl, fun j u hj => ?_⟩
    rw [Addr.add_mid, Nat.zero_add, own_cells h j (by have := h.1; have := (List.getElem?_eq_some_iff.1 hj).1; omega)]
    exact hj
end Go.Proofs.Ytofpalmghdapkaa

/- Calls that turn memory of their own: which blocks may have turned. -/
namespace Go.Proofs.Ytofpalmghdapkaa
open Go.ChangeShapes Go.WideShapes Go.ChangeAt Go.RowKit
set_option linter.unusedVariables false

/-- a number of 64 bits. -/
def I64 (n : Int) : Prop := -9223372036854775808 ≤ n ∧ n ≤ 9223372036854775807
/-- a call has turned: its own blocks may have, and there are new ones. -/
structure Moves (w w' : World) (F : Nat → Prop) : Prop where
  os : w'.os = w.os
  tape : w'.tape = w.tape
  output : w'.output = w.output
  size : w.heap.size ≤ w'.heap.size
  block : ∀ k, k < w.heap.size → ¬ F k → w'.heap[k]? = w.heap[k]?
theorem Moves.below {w w' : World} {F : Nat → Prop} {B : Nat} (h : Moves w w' F) (hF : ∀ b, F b → B ≤ b) (hB : B ≤ w.heap.size) : Below B w w' :=
  ⟨h.os, h.tape, h.output, h.size, fun k hk => h.block k (by omega) (fun f => by have := hF k f; omega)⟩
def Newer (w : World) (F F' : Nat → Prop) : Prop := ∀ b, F' b → F b ∨ w.heap.size ≤ b
theorem Moves.refl (w : World) (F : Nat → Prop) : Moves w w F := ⟨rfl, rfl, rfl, Nat.le_refl _, fun _ _ _ => rfl⟩
theorem Moves.trans {w w' w'' : World} {F : Nat → Prop} (h : Moves w w' F) (k : Moves w' w'' F) : Moves w w'' F :=
  ⟨k.os.trans h.os, k.tape.trans h.tape, k.output.trans h.output, Nat.le_trans h.size k.size, fun i hi hn => (k.block i (Nat.lt_of_lt_of_le hi h.size) hn).trans (h.block i hi hn)⟩
theorem moves_below {w w' : World} {F : Nat → Prop} (h : Below w.heap.size w w') : Moves w w' F := ⟨h.os, h.tape, h.output, h.size, fun k hk _ => h.block k hk⟩
theorem Moves.next {w w1 w2 : World} {F F1 : Nat → Prop} (h : Moves w w1 F) (n : Newer w F F1) (k : Moves w1 w2 F1) : Moves w w2 F :=
  ⟨k.os.trans h.os, k.tape.trans h.tape, k.output.trans h.output, Nat.le_trans h.size k.size, fun i hi hn => (k.block i (Nat.lt_of_lt_of_le hi h.size) (fun f => (n i f).elim hn (fun q => by omega))).trans (h.block i hi hn)⟩
end Go.Proofs.Ytofpalmghdapkaa

/- What package flows' functions owe, over whatever a store is in memory; flows as values, and in rows. -/
namespace Go.Proofs.Ytofpalmghdapkaa
open Go.ChangeShapes Go.WideShapes Go.ChangeAt Go.RowKit
set_option linter.unusedVariables false
set_option linter.unusedSimpArgs false

def Fl.L (f : Fl) : List Value := [.int .i64 f.there.proto, .int .u32 f.there.src, .int .i64 f.there.sport, .int .u32 f.there.dst, .int .i64 f.there.dport, .int .i64 f.back.proto, .int .u32 f.back.src, .int .i64 f.back.sport, .int .u32 f.back.dst, .int .i64 f.back.dport, .int .i64 f.until_, .int .i64 f.note]
abbrev flL (f : Fl) : List Value := [.int .i64 f.there.proto, .int .u32 f.there.src, .int .i64 f.there.sport, .int .u32 f.there.dst, .int .i64 f.there.dport, .int .i64 f.back.proto, .int .u32 f.back.src, .int .i64 f.back.sport, .int .u32 f.back.dst, .int .i64 f.back.dport, .int .i64 f.until_, .int .i64 f.note]
abbrev flV (f : Fl) : Value := .agg #[.int .i64 f.there.proto, .int .u32 f.there.src, .int .i64 f.there.sport, .int .u32 f.there.dst, .int .i64 f.there.dport, .int .i64 f.back.proto, .int .u32 f.back.src, .int .i64 f.back.sport, .int .u32 f.back.dst, .int .i64 f.back.dport, .int .i64 f.until_, .int .i64 f.note]
abbrev oFl (f : Fl) : Obj := .cells #[.int .i64 f.there.proto, .int .u32 f.there.src, .int .i64 f.there.sport, .int .u32 f.there.dst, .int .i64 f.there.dport, .int .i64 f.back.proto, .int .u32 f.back.src, .int .i64 f.back.sport, .int .u32 f.back.dst, .int .i64 f.back.dport, .int .i64 f.until_, .int .i64 f.note] 40
theorem Fl.len (f : Fl) : f.L.length = 12 := rfl
theorem info_fl : (Try.prog.info? 40).map (·.size) = some 12 := by kernel_rfl
theorem info_flz : (Try.prog.info? 40).map (fun i => (i.zero, i.size, i.bytes)) = some (some (.agg #[.int .i64 0, .int .u32 0, .int .i64 0, .int .u32 0, .int .i64 0, .int .i64 0, .int .u32 0, .int .i64 0, .int .u32 0, .int .i64 0, .int .i64 0, .int .i64 0]), 12, 96) := by kernel_rfl
theorem fl_one (l : List Fl) : ∀ u ∈ l.flatMap Fl.L, u.oneCell' = true := fun u hu => by
  obtain ⟨e, _, he⟩ := List.mem_flatMap.1 hu
  simp only [Fl.L, List.mem_cons, List.not_mem_nil, or_false] at he
  rcases he with rfl | rfl | rfl | rfl | rfl | rfl | rfl | rfl | rfl | rfl | rfl | rfl <;> rfl
structure RngFl (f : Fl) : Prop where
  there : RngTp f.there
  back : RngTp f.back
def sameFl (a b : Fl) : Bool := sameTp a.there b.there && (sameTp a.back b.back && (a.until_ == b.until_ && a.note == b.note))
theorem sameFl_iff (a b : Fl) : sameFl a b = true ↔ a = b := by
  obtain ⟨a1, a2, a3, a4⟩ := a
  obtain ⟨b1, b2, b3, b4⟩ := b
  unfold sameFl
  simp [sameTp_iff]
set_option maxRecDepth 100000 in
theorem eqInFl (m n : Fl) (w : World) : (Op.equalIn 10000 40 (flV m) (flV n)).run Try.prog w = .ok (sameFl m n) w := by
  have hS : Try.prog.underlying 40 = some (.struct (Try.prog.fieldsOf 40)) := by kernel_rfl
  have hp : Try.prog.stoodInHeld 40 = false := by kernel_rfl
  have u3 := Try.underlying3
  have u4 := Try.underlying36
  have a3 := Try.isAgg3
  have z3 := Try.sizeOf3
  have a4 := Try.isAgg36
  have z4 := Try.sizeOf36
  have a6 := Try.isAgg38
  have z6 := Try.sizeOf38
  rw [show (10000 : Nat) = 9999 + 1 from rfl, run_equalIn_agg w 9999 40 _ _ hS hp]
  simp only [Program.fieldsOf, Try.underlying40]
  obtain ⟨⟨m1, m2, m3, m4, m5⟩, ⟨m6, m7, m8, m9, m10⟩, m11, m12⟩ := m
  obtain ⟨⟨n1, n2, n3, n4, n5⟩, ⟨n6, n7, n8, n9, n10⟩, n11, n12⟩ := n
  unfold sameFl
  dsimp only
  have q := fun W => eqInTpD 9997 ⟨m1, m2, m3, m4, m5⟩ ⟨n1, n2, n3, n4, n5⟩ W
  have q2 := fun W => eqInTpD 9997 ⟨m6, m7, m8, m9, m10⟩ ⟨n6, n7, n8, n9, n10⟩ W
  simp only [Op.eqFields]
  go_simp
  generalize sameTp ⟨m1, m2, m3, m4, m5⟩ ⟨n1, n2, n3, n4, n5⟩ = s
  generalize sameTp ⟨m6, m7, m8, m9, m10⟩ ⟨n6, n7, n8, n9, n10⟩ = s2
  by_cases h1 : m11 = n11 <;> by_cases h7 : m12 = n12 <;> cases s <;> cases s2 <;> simp [h1, h7]
theorem eqFl (m n : Fl) (w : World) : (binOp .eql 40 (flV m) (flV n)).run Try.prog w = .ok (.bool (sameFl m n)) w := by
  rw [run_eql_struct, eqInFl]; rfl
theorem neFl (m n : Fl) (w : World) : (binOp .neq 40 (flV m) (flV n)).run Try.prog w = .ok (.bool (!sameFl m n)) w := by
  rw [run_neq_struct, eqInFl]; rfl
/-- flows in a row. -/
structure FlsAt (w : World) (l : List Fl) (A : Option Addr) (c : Nat) : Prop where
  len : l.length ≤ c
  cap : c ≤ 9223372036854775807
  nil : A = none → c = 0
  rd : RdC w A (l.flatMap Fl.L)
section
variable {w w' : World} {l : List Fl} {A : Option Addr} {c : Nat}
theorem FlsAt.at (h : FlsAt w l A c) (y : Below w.heap.size w w') : FlsAt w' l A c := ⟨h.len, h.cap, h.nil, h.rd.keep y⟩
theorem FlsAt.cell (h : FlsAt w l A c) {i : Nat} (hi : i < l.length) : ∃ ad, A = some ad ∧ ∀ Y, Below w.heap.size w Y → ∀ j v, (flL l[i])[j]? = some v → Y.cell? ((ad.add (i * 12)).add j) = some v := by
  rcases h.rd with h0 | ⟨ad, e, hc⟩
  · have := flat_len Fl.L 12 Fl.len l
    rw [h0] at this
    simp at this
    omega
  · refine ⟨ad, e, fun Y y j v hv => ?_⟩
    have hj : j < 12 := by have := (List.getElem?_eq_some_iff.1 hv).1; simpa using this
    have h1 : (l.flatMap Fl.L)[i * 12 + j]? = some v := by
      rw [flat_get Fl.L 12 Fl.len l i j hi hj]; exact hv
    have h2 := hc _ _ h1
    rw [add_add]
    exact (y.cell (World.block_lt_of_cell? w _ h2)).trans h2
end
/-- flows that are answered in memory of their own. -/
structure FlsDue (w w' : World) (F' : Nat → Prop) (l : List Fl) (A : Option Addr) (c : Nat) : Prop where
  fls : FlsAt w' l A c
  apart : ∀ ad, A = some ad → w.heap.size ≤ ad.block ∧ ad.block < w'.heap.size ∧ ¬ F' ad.block
/-- what a store is in memory, and what its functions owe. -/
structure StoreC where
  Rep : World → Addr → Sr → (Nat → Prop) → Prop
  right : ∀ {w ad x F}, Rep w ad x F → RightS x
  rng : ∀ {w ad x F}, Rep w ad x F → ∀ i f, slotF x.slots i = some f → RngFl f
  lt : ∀ {w ad x F}, Rep w ad x F → ∀ b, F b → b < w.heap.size
  keep : ∀ {w w' ad x F}, Rep w ad x F → (∀ b, F b → w'.heap[b]? = w.heap[b]?) → w.heap.size ≤ w'.heap.size → Rep w' ad x F
  new0 : ∀ (room : Int) (w : World), newS room = none → Calls Try.prog 7 #[.int .i64 room] w fun e w' => e = .returned (.tuple #[.pointer none, .int .i64 1]) ∧ Below w.heap.size w w'
  new1 : ∀ (room : Int) (w : World) (s : Sr), newS room = some s → Calls Try.prog 7 #[.int .i64 room] w fun e w' => ∃ ad F, e = .returned (.tuple #[.pointer (some ad), .int .i64 0]) ∧ Rep w' ad s F ∧ (∀ b, F b → w.heap.size ≤ b) ∧ Below w.heap.size w w'
  add : ∀ {w ad x F}, Rep w ad x F → ∀ (f : Fl) (q : Sr × Int × Int), RngFl f → addS x f = q → Calls Try.prog 9 #[.pointer (some ad), flV f] w fun e w' => ∃ F', e = .returned (.tuple #[.int .i64 q.2.1, .int .i64 q.2.2]) ∧ Rep w' ad q.1 F' ∧ Newer w F F' ∧ Moves w w' F
  find : ∀ {w ad x F}, Rep w ad x F → ∀ (t : Tp) (q : Int × Bool × Bool), RngTp t → findS x t = q → Calls Try.prog 10 #[.pointer (some ad), tpV t] w fun e w' => e = .returned (.tuple #[.int .i64 q.1, .bool q.2.1, .bool q.2.2]) ∧ Below w.heap.size w w'
  get : ∀ {w ad x F}, Rep w ad x F → ∀ (num : Int) (o : Option Fl), I64 num → thereF x num = o → Calls Try.prog 11 #[.pointer (some ad), .int .i64 num] w fun e w' => e = .returned (.tuple #[flV (o.getD fl0), .bool o.isSome]) ∧ Below w.heap.size w w'
  set : ∀ {w ad x F}, Rep w ad x F → ∀ (num u no : Int) (q : Sr × Int), I64 num → setF11 x num u no = q → Calls Try.prog 14 #[.pointer (some ad), .int .i64 num, .int .i64 u, .int .i64 no] w fun e w' => ∃ F', e = .returned (.int .i64 q.2) ∧ Rep w' ad q.1 F' ∧ Newer w F F' ∧ Moves w w' F
  drop : ∀ {w ad x F}, Rep w ad x F → ∀ (num : Int) (q : Sr × Fl × Int), I64 num → dropF x num = q → Calls Try.prog 12 #[.pointer (some ad), .int .i64 num] w fun e w' => ∃ F', e = .returned (.tuple #[flV q.2.1, .int .i64 q.2.2]) ∧ Rep w' ad q.1 F' ∧ Newer w F F' ∧ Moves w w' F
  tick : ∀ {w ad x F}, Rep w ad x F → ∀ (now : Int) (q : Sr × List Fl × Int), tickF x now = q → Calls Try.prog 13 #[.pointer (some ad), .int .i64 now] w fun e w' => ∃ F' A c, e = .returned (.tuple #[.slice A q.2.1.length c, .int .i64 q.2.2]) ∧ FlsDue w w' F' q.2.1 A c ∧ Rep w' ad q.1 F' ∧ Newer w F F' ∧ Moves w w' F
  all_ : ∀ {w ad x F}, Rep w ad x F → ∀ (l : List Fl), allF x.slots = l → Calls Try.prog 15 #[.pointer (some ad)] w fun e w' => ∃ A c, e = .returned (.slice A l.length c) ∧ FlsAt w' l A c ∧ Below w.heap.size w w'
  len_ : ∀ {w ad x F}, Rep w ad x F → ∀ (n : Int), ((allF x.slots).length : Int) = n → Calls Try.prog 16 #[.pointer (some ad)] w fun e w' => e = .returned (.int .i64 n) ∧ Below w.heap.size w w'
/-- a store in a law's hands. -/
structure SrI (K : StoreC) (w0 : World) (ad : Addr) (x : Sr) (F : Nat → Prop) (wr : World) : Prop where
  rep : K.Rep wr ad x F
  ge : ∀ b, F b → w0.heap.size ≤ b
  below : Below w0.heap.size w0 wr
section
variable {K : StoreC} {w0 wr wx : World} {ad : Addr} {x x' : Sr} {F F' : Nat → Prop}
theorem SrI.call (h : SrI K w0 ad x F wr) (y : Below wr.heap.size wr wx) : SrI K w0 ad x F wx :=
  ⟨K.keep h.rep (fun b hb => y.block b (K.lt h.rep b hb)) y.size, h.ge, h.below.trans (y.mono h.below.size)⟩
theorem SrI.turn (h : SrI K w0 ad x F wr) (r : K.Rep wx ad x' F') (n : Newer wr F F') (m : Moves wr wx F) : SrI K w0 ad x' F' wx :=
  ⟨r, fun b hb => (n b hb).elim (fun q => h.ge b q) (fun q => Nat.le_trans h.below.size q), h.below.trans (m.below h.ge h.below.size)⟩
theorem SrI.made (hb : Below w0.heap.size w0 wr) (r : K.Rep wx ad x F) (n : ∀ b, F b → wr.heap.size ≤ b) (y : Below wr.heap.size wr wx) : SrI K w0 ad x F wx :=
  ⟨r, fun b hf => Nat.le_trans hb.size (n b hf), hb.trans (y.mono hb.size)⟩
end
/-- a flow's tuples in its box. -/
theorem Bxo.there {w : World} {g : Nat} {ty : TypeId} {f : Fl} (h : Bxo w g ty (flL f)) : ∀ j v, (tpL f.there)[j]? = some v → w.cell? ((⟨g, 0, none⟩ : Addr).add j) = some v := fun j v hj => by
  rw [Addr.add_mid]
  refine h.cell _ ?_
  have hl := (List.getElem?_eq_some_iff.1 hj).1
  match j, hl with
  | 0, _ => exact hj
  | 1, _ => exact hj
  | 2, _ => exact hj
  | 3, _ => exact hj
  | 4, _ => exact hj
theorem Bxo.back {w : World} {g : Nat} {ty : TypeId} {f : Fl} (h : Bxo w g ty (flL f)) : ∀ j v, (tpL f.back)[j]? = some v → w.cell? ((⟨g, 5, none⟩ : Addr).add j) = some v := fun j v hj => by
  rw [Addr.add_mid]
  refine h.cell _ ?_
  have hl := (List.getElem?_eq_some_iff.1 hj).1
  match j, hl with
  | 0, _ => exact hj
  | 1, _ => exact hj
  | 2, _ => exact hj
  | 3, _ => exact hj
  | 4, _ => exact hj
/-- a struct in a box, out of a store's hands. -/
structure Bxf (F : Nat → Prop) (g : Nat) (ty : TypeId) (cs : List Value) (wr : World) : Prop where
  box : Bxo wr g ty cs
  nF : ¬ F g
section
variable {F F' : Nat → Prop} {g : Nat} {ty : TypeId} {cs : List Value} {wr wx : World}
theorem Bxf.call (h : Bxf F g ty cs wr) (y : Below wr.heap.size wr wx) : Bxf F g ty cs wx := ⟨h.box.keep y h.box.lt, h.nF⟩
theorem Bxf.turn (h : Bxf F g ty cs wr) (n : Newer wr F F') (m : Moves wr wx F) : Bxf F' g ty cs wx :=
  ⟨(m.block g h.box.lt h.nF).trans h.box, fun f => (n g f).elim h.nF (fun q => by have := h.box.lt; omega)⟩
theorem Bxf.only (h : Bxf F g ty cs wr) {g' : Nat} (ho : Only g' wr wx) (hg : g ≠ g') : Bxf F g ty cs wx := ⟨h.box.only ho hg, h.nF⟩
end
def AwakeC12 : Prop := ∀ w, Calls Try.prog 6 #[] w fun e w' => e = .returned (.bool true) ∧ Below w.heap.size w w'
end Go.Proofs.Ytofpalmghdapkaa

/- Statements of layer 12: what is not asleep. -/
namespace Go.Proofs.Ytofpalmghdapkaa
open Go.ChangeShapes Go.WideShapes Go.ChangeAt Go.RowKit
set_option linter.unusedVariables false
set_option linter.unusedSimpArgs false

abbrev flA : Fl := ⟨⟨0, 1, 0, 0, 0⟩, ⟨0, 2, 0, 0, 0⟩, 5, 0⟩
theorem awake_facts12 : ∃ s0 s1 s2 : Sr, newS 2 = some s0 ∧ addS s0 flA = (s1, 0, 0) ∧ findS s1 ⟨0, 2, 0, 0, 0⟩ = (0, true, true) ∧ tickF s1 5 = (s2, [flA], 0) ∧ ((allF s2.slots).length : Int) = 0 := by
  refine ⟨⟨[none, none], 0⟩, ⟨[some flA, none], 0⟩, ⟨[none, none], 5⟩, rfl, rfl, rfl, ?_, rfl⟩
  have h : dueA (alF [some flA, none]) 5 = [⟨0, 5⟩] := due_is (List.Perm.refl _) (List.pairwise_singleton _ _)
  unfold tickF
  rw [if_neg (by decide)]
  dsimp only
  rw [h]
  rfl
theorem addr_zero12 (a : Addr) : a.add 0 = a := by unfold Addr.add; simp
set_option maxRecDepth 100000 in
set_option maxHeartbeats 8000000 in
theorem cawake12 (K : StoreC) : AwakeC12 := by
  intro w
  obtain ⟨s0, s1, s2, a1, a2, a3, a4, a5⟩ := awake_facts12
  have q1 := Go.Lib.hid a1
  have q2 := Go.Lib.hid a2
  have q3 := Go.Lib.hid a3
  have q4 := Go.Lib.hid a4
  have q5 := Go.Lib.hid a5
  have rf : RngFl flA := ⟨⟨by decide, by decide, by decide, by decide⟩, ⟨by decide, by decide, by decide, by decide⟩⟩
  have rt : RngTp ⟨0, 2, 0, 0, 0⟩ := ⟨by decide, by decide, by decide, by decide⟩
  have x0 : Below w.heap.size w w := Below.refl _ _
  have ef : ∀ W, (binOp .eql 40 (flV flA) (flV flA)).run Try.prog W = .ok (.bool true) W := fun W => (eqFl _ _ W).trans (by rfl)
  clear a1 a2 a3 a4 a5
  go_enter Try.func6, Try.ntmps6
  go_upto_region 3 with (first
    | (go_at_call 7; refine (K.new1 2 _ s0 q1.out).mono ?_; rintro e w1 ⟨ad, F1, rfl, r1, f1, y1⟩; have H1 := Go.Lib.hid (SrI.made x0 r1 f1 y1); clear r1 f1 y1; dsimp only))
  have y2 : Below w1.heap.size w1 (w1.alloc (oFl flA)) := below_alloc (Below.refl _ _) (Nat.le_refl _) _
  have H2 := Go.Lib.hid (H1.out.call y2)
  have B2 : Hid (Bxf F1 w1.heap.size 40 (flL flA) (w1.alloc (oFl flA))) := Go.Lib.hid ⟨Bxo.made w1 40 (flL flA), fun hb => by have := K.lt H1.out.rep _ hb; omega⟩
  generalize w1.alloc (.cells (flL flA).toArray 40) = W2 at *
  generalize w1.heap.size = g2 at *
  clear y2 H1
  go_upto_region 4 with (first
    | (refine wpList_load_box rfl 40 _ rfl g2 rfl (flL flA) _ B2.out.box Try.underlying40 rfl info_fl ?_)
    | (go_at_call 9; refine (K.add H2.out.rep flA (s1, 0, 0) rf q2.out).mono ?_; rintro e w3 ⟨F3, rfl, r3, n3, m3⟩; have H3 := Go.Lib.hid (H2.out.turn r3 n3 m3); have B3 := Go.Lib.hid (B2.out.turn n3 m3); clear r3 n3 m3; dsimp only))
  go_upto_region 5 with (first
    | (refine wpList_load_at rfl 38 _ rfl (⟨g2, 5, none⟩ : Addr) rfl (tpL ⟨0, 2, 0, 0, 0⟩) _ B3.out.box.back Try.underlying38 rfl info_tp ?_)
    | (go_at_call 10; refine (K.find H3.out.rep ⟨0, 2, 0, 0, 0⟩ (0, true, true) rt q3.out).mono ?_; rintro e w4 ⟨rfl, y4⟩; have H4 := Go.Lib.hid (H3.out.call y4); have B4 := Go.Lib.hid (B3.out.call y4); dsimp only))
  go_upto_region 6 with (first
    | (go_at_call 13; refine (K.tick H4.out.rep 5 (s2, [flA], 0) q4.out).mono ?_; rintro e w5 ⟨F5, A5, c5, rfl, d5, r5, n5, m5⟩; have H5 := Go.Lib.hid (H4.out.turn r5 n5 m5); have B5 := Go.Lib.hid (B4.out.turn n5 m5); have D5 := Go.Lib.hid d5.fls; clear r5 n5 m5 d5; dsimp only))
  obtain ⟨ada, rfl, hca⟩ := D5.out.cell (i := 0) (show 0 < 1 by omega)
  have ca : ∀ Y, Below w5.heap.size w5 Y → ∀ j v, (flL flA)[j]? = some v → Y.cell? (ada.add j) = some v := fun Y h j v hj => by
    have := hca Y h j v hj
    rwa [Nat.zero_mul, addr_zero12] at this
  clear hca
  try simp only [Act.put, List.setIfInBounds_toArray, List.set_cons_zero, List.set_cons_succ]
  refine wp_region_held_drew (S := fun Y => Below w5.heap.size w5 Y) (by kernel_rfl) ?_ (fun hHeld => ?_)
  · exact below_drew (Below.refl _ _)
  refine wpAnyH_take (i := 0) (oi := ⟨some 37, _, _, _, _, _⟩) (v := ?_) rfl (by kernel_rfl) (by kernel_rfl) (by kernel_rfl) (fun _ _ _ h => h) (Or.inl ⟨by rfl, ?_⟩) (by assumption) ?_
  rotate_left
  · intro w hSw; (try dsimp only at hSw); go_simp; (try with_reducible rfl)
  try simp only [Act.put, List.setIfInBounds_toArray, List.set_cons_zero, List.set_cons_succ]
  refine wpAnyH_take (i := 1) (oi := ⟨some 38, _, _, _, _, _⟩) (v := ?_) rfl (by kernel_rfl) (by kernel_rfl) (by kernel_rfl) (fun _ _ _ h => h) (Or.inl ⟨by rfl, ?_⟩) (by assumption) ?_
  rotate_left
  · intro w hSw; (try dsimp only at hSw); go_simp; (try with_reducible rfl)
  try simp only [Act.put, List.setIfInBounds_toArray, List.set_cons_zero, List.set_cons_succ]
  refine wpAnyH_take (i := 2) (oi := ⟨some 39, _, _, _, _, _⟩) (v := ?_) rfl (by kernel_rfl) (by kernel_rfl) (by kernel_rfl) (fun _ _ _ h => h) (Or.inl ⟨by rfl, ?_⟩) (by assumption) ?_
  rotate_left
  · intro w hSw; (try dsimp only at hSw); go_simp; (try with_reducible rfl)
  try simp only [Act.put, List.setIfInBounds_toArray, List.set_cons_zero, List.set_cons_succ]
  refine wpAnyH_take (i := 3) (oi := ⟨some 40, _, _, _, _, _⟩) (v := ?_) rfl (by kernel_rfl) (by kernel_rfl) (by kernel_rfl) (fun _ _ _ h => h) (Or.inl ⟨by rfl, ?_⟩) (by assumption) ?_
  rotate_left
  · intro w hSw; (try dsimp only at hSw); go_simp; (try with_reducible rfl)
  try simp only [Act.put, List.setIfInBounds_toArray, List.set_cons_zero, List.set_cons_succ]
  refine wpAnyH_take (i := 4) (oi := ⟨some 41, _, _, _, _, _⟩) (v := ?_) rfl (by kernel_rfl) (by kernel_rfl) (by kernel_rfl) (fun _ _ _ h => h) (Or.inl ⟨by rfl, ?_⟩) (by assumption) ?_
  rotate_left
  · intro w hSw; (try dsimp only at hSw); go_simp; (try with_reducible rfl)
  try simp only [Act.put, List.setIfInBounds_toArray, List.set_cons_zero, List.set_cons_succ]
  refine wpAnyH_take (i := 5) (oi := ⟨some 42, _, _, _, _, _⟩) (v := ?_) rfl (by kernel_rfl) (by kernel_rfl) (by kernel_rfl) (fun _ _ _ h => h) (Or.inl ⟨by rfl, ?_⟩) (by assumption) ?_
  rotate_left
  · intro w hSw; (try dsimp only at hSw); go_simp; (try with_reducible rfl)
  try simp only [Act.put, List.setIfInBounds_toArray, List.set_cons_zero, List.set_cons_succ]
  refine wpAnyH_take (i := 6) (oi := ⟨some 43, _, _, _, _, _⟩) (v := ?_) rfl (by kernel_rfl) (by kernel_rfl) (by kernel_rfl) (fun _ _ _ h => h) (Or.inl ⟨by rfl, ?_⟩) (by assumption) ?_
  rotate_left
  · intro w hSw; (try dsimp only at hSw); go_simp; (try with_reducible rfl)
  try simp only [Act.put, List.setIfInBounds_toArray, List.set_cons_zero, List.set_cons_succ]
  refine wpAnyH_take (i := 7) (oi := ⟨some 44, _, _, _, _, _⟩) (v := ?_) rfl (by kernel_rfl) (by kernel_rfl) (by kernel_rfl) (fun _ _ _ h => h) (Or.inl ⟨by rfl, ?_⟩) (by assumption) ?_
  rotate_left
  · intro w hSw; (try dsimp only at hSw); go_simp; (try with_reducible rfl)
  try simp only [Act.put, List.setIfInBounds_toArray, List.set_cons_zero, List.set_cons_succ]
  refine wpAnyH_take (i := 8) (oi := ⟨some 45, _, _, _, _, _⟩) (v := ?_) rfl (by kernel_rfl) (by kernel_rfl) (by kernel_rfl) (fun _ _ _ h => h) (Or.inl ⟨by rfl, ?_⟩) (by assumption) ?_
  rotate_left
  · intro w hSw; (try dsimp only at hSw); go_simp; (try with_reducible rfl)
  try simp only [Act.put, List.setIfInBounds_toArray, List.set_cons_zero, List.set_cons_succ]
  refine wpAnyH_take (i := 9) (oi := ⟨some 46, _, _, _, _, _⟩) (v := ?_) rfl (by kernel_rfl) (by kernel_rfl) (by kernel_rfl) (fun _ _ _ h => h) (Or.inl ⟨by rfl, ?_⟩) (by assumption) ?_
  rotate_left
  · intro w hSw; (try dsimp only at hSw); go_simp; (try with_reducible rfl)
  try simp only [Act.put, List.setIfInBounds_toArray, List.set_cons_zero, List.set_cons_succ]
  refine wpAnyH_take (i := 10) (oi := ⟨some 47, _, _, _, _, _⟩) (v := ?_) rfl (by kernel_rfl) (by kernel_rfl) (by kernel_rfl) (fun _ _ _ h => h) (Or.inl ⟨by rfl, ?_⟩) (by assumption) ?_
  rotate_left
  · intro w hSw; (try dsimp only at hSw); go_simp; (try with_reducible rfl)
  try simp only [Act.put, List.setIfInBounds_toArray, List.set_cons_zero, List.set_cons_succ]
  refine wpAnyH_take (i := 11) (oi := ⟨some 48, _, _, _, _, _⟩) (v := ?_) rfl (by kernel_rfl) (by kernel_rfl) (by kernel_rfl) (fun _ _ _ h => h) (Or.inl ⟨by rfl, ?_⟩) (by assumption) ?_
  rotate_left
  · intro w hSw; (try dsimp only at hSw); go_simp; (try with_reducible rfl)
  try simp only [Act.put, List.setIfInBounds_toArray, List.set_cons_zero, List.set_cons_succ]
  refine wpAnyH_take (i := 12) (oi := ⟨some 49, _, _, _, _, _⟩) (v := ?_) rfl (by kernel_rfl) (by kernel_rfl) (by kernel_rfl) (fun _ _ _ h => h) (Or.inl ⟨by rfl, ?_⟩) (by assumption) ?_
  rotate_left
  · intro w hSw; (try dsimp only at hSw); go_simp; (try with_reducible rfl)
  try simp only [Act.put, List.setIfInBounds_toArray, List.set_cons_zero, List.set_cons_succ]
  refine wpAnyH_take (i := 13) (oi := ⟨some 50, _, _, _, _, _⟩) (v := ?_) rfl (by kernel_rfl) (by kernel_rfl) (by kernel_rfl) (fun _ _ _ h => h) (Or.inl ⟨by rfl, ?_⟩) (by assumption) ?_
  rotate_left
  · intro w hSw; (try dsimp only at hSw); go_simp; (try with_reducible rfl)
  try simp only [Act.put, List.setIfInBounds_toArray, List.set_cons_zero, List.set_cons_succ]
  refine wpAnyH_take (i := 14) (oi := ⟨some 51, _, _, _, _, _⟩) (v := ?_) rfl (by kernel_rfl) (by kernel_rfl) (by kernel_rfl) (fun _ _ _ h => h) (Or.inl ⟨by rfl, ?_⟩) (by assumption) ?_
  rotate_left
  · intro w hSw; (try dsimp only at hSw); go_simp; (try with_reducible rfl)
  try simp only [Act.put, List.setIfInBounds_toArray, List.set_cons_zero, List.set_cons_succ]
  refine wpAnyH_take (i := 15) (oi := ⟨some 52, _, _, _, _, _⟩) (v := ?_) rfl (by kernel_rfl) (by kernel_rfl) (by kernel_rfl) (fun _ _ _ h => h) (Or.inl ⟨by rfl, ?_⟩) (by assumption) ?_
  rotate_left
  · intro w hSw; (try dsimp only at hSw); go_simp; (try with_reducible rfl)
  try simp only [Act.put, List.setIfInBounds_toArray, List.set_cons_zero, List.set_cons_succ]
  refine wpAnyH_take (i := 16) (oi := ⟨some 53, _, _, _, _, _⟩) (v := ?_) rfl (by kernel_rfl) (by kernel_rfl) (by kernel_rfl) (fun _ _ _ h => h) (Or.inl ⟨by rfl, ?_⟩) (by assumption) ?_
  rotate_left
  · intro w hSw; (try dsimp only at hSw); go_simp; (try with_reducible rfl)
  try simp only [Act.put, List.setIfInBounds_toArray, List.set_cons_zero, List.set_cons_succ]
  refine wpAnyH_take (i := 17) (oi := ⟨some 54, _, _, _, _, _⟩) (v := ?_) rfl (by kernel_rfl) (by kernel_rfl) (by kernel_rfl) (fun _ _ _ h => h) (Or.inl ⟨by rfl, ?_⟩) (by assumption) ?_
  rotate_left
  · intro w hSw; (try dsimp only at hSw); go_simp; (try with_reducible rfl)
  try simp only [Act.put, List.setIfInBounds_toArray, List.set_cons_zero, List.set_cons_succ]
  refine wpAnyH_take (i := 18) (oi := ⟨some 55, _, _, _, _, _⟩) (v := ?_) rfl (by kernel_rfl) (by kernel_rfl) (by kernel_rfl) (fun _ _ _ h => h) (Or.inl ⟨by rfl, ?_⟩) (by assumption) ?_
  rotate_left
  · intro w hSw; (try dsimp only at hSw); go_simp; (try with_reducible rfl)
  try simp only [Act.put, List.setIfInBounds_toArray, List.set_cons_zero, List.set_cons_succ]
  refine wpAnyH_take (i := 19) (oi := ⟨some 56, _, _, _, _, _⟩) (v := ?_) rfl (by kernel_rfl) (by kernel_rfl) (by kernel_rfl) (fun _ _ _ h => h) (Or.inl ⟨by rfl, ?_⟩) (by assumption) ?_
  rotate_left
  · intro w hSw; (try dsimp only at hSw); go_simp; (try with_reducible rfl)
  try simp only [Act.put, List.setIfInBounds_toArray, List.set_cons_zero, List.set_cons_succ]
  refine wpAnyH_take (i := 20) (oi := ⟨some 57, _, _, _, _, _⟩) (v := ?_) rfl (by kernel_rfl) (by kernel_rfl) (by kernel_rfl) (fun _ _ _ h => h) (Or.inl ⟨by rfl, ?_⟩) (by assumption) ?_
  rotate_left
  · intro w hSw; (try dsimp only at hSw); go_simp; (try with_reducible rfl)
  try simp only [Act.put, List.setIfInBounds_toArray, List.set_cons_zero, List.set_cons_succ]
  refine wpAnyH_take (i := 21) (oi := ⟨some 58, _, _, _, _, _⟩) (v := ?_) rfl (by kernel_rfl) (by kernel_rfl) (by kernel_rfl) (fun _ _ _ h => h) (Or.inl ⟨by rfl, ?_⟩) (by assumption) ?_
  rotate_left
  · intro w hSw; (try dsimp only at hSw); go_simp; (try with_reducible rfl)
  try simp only [Act.put, List.setIfInBounds_toArray, List.set_cons_zero, List.set_cons_succ]
  refine wpAnyH_take (i := 22) (oi := ⟨some 59, _, _, _, _, _⟩) (v := ?_) rfl (by kernel_rfl) (by kernel_rfl) (by kernel_rfl) (fun _ _ _ h => h) (Or.inl ⟨by rfl, ?_⟩) (by assumption) ?_
  rotate_left
  · intro w hSw; (try dsimp only at hSw); go_simp; (try with_reducible rfl)
  try simp only [Act.put, List.setIfInBounds_toArray, List.set_cons_zero, List.set_cons_succ]
  refine wpAnyH_take (i := 23) (oi := ⟨some 60, _, _, _, _, _⟩) (v := ?_) rfl (by kernel_rfl) (by kernel_rfl) (by kernel_rfl) (fun _ _ _ h => h) (Or.inl ⟨by rfl, ?_⟩) (by assumption) ?_
  rotate_left
  · intro w hSw; (try dsimp only at hSw); go_simp; (try with_reducible rfl)
  try simp only [Act.put, List.setIfInBounds_toArray, List.set_cons_zero, List.set_cons_succ]
  refine wpAnyH_take (i := 24) (oi := ⟨some 61, _, _, _, _, _⟩) (v := ?_) rfl (by kernel_rfl) (by kernel_rfl) (by kernel_rfl) (fun _ _ _ h => h) (Or.inl ⟨by rfl, ?_⟩) (by assumption) ?_
  rotate_left
  · intro w hSw; (try dsimp only at hSw); go_simp; (try with_reducible rfl)
  try simp only [Act.put, List.setIfInBounds_toArray, List.set_cons_zero, List.set_cons_succ]
  refine wpAnyH_take (i := 25) (oi := ⟨some 62, _, _, _, _, _⟩) (v := ?_) rfl (by kernel_rfl) (by kernel_rfl) (by kernel_rfl) (fun _ _ _ h => h) (Or.inl ⟨by rfl, ?_⟩) (by assumption) ?_
  rotate_left
  · intro w hSw; (try dsimp only at hSw); go_simp; (try with_reducible rfl)
  try simp only [Act.put, List.setIfInBounds_toArray, List.set_cons_zero, List.set_cons_succ]
  refine wpAnyH_take (i := 26) (oi := ⟨some 63, _, _, _, _, _⟩) (v := ?_) rfl (by kernel_rfl) (by kernel_rfl) (by kernel_rfl) (fun _ _ _ h => h) (Or.inl ⟨by rfl, ?_⟩) (by assumption) ?_
  rotate_left
  · intro w hSw; (try dsimp only at hSw); go_simp; (try with_reducible rfl)
  try simp only [Act.put, List.setIfInBounds_toArray, List.set_cons_zero, List.set_cons_succ]
  refine wpAnyH_take (i := 27) (oi := ⟨some 64, _, _, _, _, _⟩) (v := ?_) rfl (by kernel_rfl) (by kernel_rfl) (by kernel_rfl) (fun _ _ _ h => h) (Or.inl ⟨by rfl, ?_⟩) (by assumption) ?_
  rotate_left
  · intro w hSw; (try dsimp only at hSw); go_simp; (try with_reducible rfl)
  try simp only [Act.put, List.setIfInBounds_toArray, List.set_cons_zero, List.set_cons_succ]
  refine wpAnyH_take (i := 28) (oi := ⟨some 65, _, _, _, _, _⟩) (v := ?_) rfl (by kernel_rfl) (by kernel_rfl) (by kernel_rfl) (fun _ _ _ h => h) (Or.inl ⟨by rfl, ?_⟩) (by assumption) ?_
  rotate_left
  · intro w hSw; (try dsimp only at hSw); go_simp; (try with_reducible rfl)
  try simp only [Act.put, List.setIfInBounds_toArray, List.set_cons_zero, List.set_cons_succ]
  refine wpAnyH_take (i := 29) (oi := ⟨some 66, _, _, _, _, _⟩) (v := ?_) rfl (by kernel_rfl) (by kernel_rfl) (by kernel_rfl) (fun _ _ _ h => h) (Or.inl ⟨by rfl, ?_⟩) (by assumption) ?_
  rotate_left
  · intro w hSw; (try dsimp only at hSw); go_simp; (try with_reducible rfl)
  try simp only [Act.put, List.setIfInBounds_toArray, List.set_cons_zero, List.set_cons_succ]
  refine wpAnyH_take (i := 30) (oi := ⟨some 67, _, _, _, _, _⟩) (v := ?_) rfl (by kernel_rfl) (by kernel_rfl) (by kernel_rfl) (fun _ _ _ h => h) (Or.inl ⟨by rfl, ?_⟩) (by assumption) ?_
  rotate_left
  · intro w hSw; (try dsimp only at hSw); go_simp; (try with_reducible rfl)
  try simp only [Act.put, List.setIfInBounds_toArray, List.set_cons_zero, List.set_cons_succ]
  refine wpAnyH_take (i := 31) (oi := ⟨some 68, _, _, _, _, _⟩) (v := ?_) rfl (by kernel_rfl) (by kernel_rfl) (by kernel_rfl) (fun _ _ _ h => h) (Or.inl ⟨by rfl, ?_⟩) (by assumption) ?_
  rotate_left
  · intro w hSw; (try dsimp only at hSw); go_simp; (try with_reducible rfl)
  try simp only [Act.put, List.setIfInBounds_toArray, List.set_cons_zero, List.set_cons_succ]
  refine wpAnyH_take (i := 32) (oi := ⟨some 69, _, _, _, _, _⟩) (v := (flV flA)) rfl (by kernel_rfl) (by kernel_rfl) (by kernel_rfl) (fun _ _ _ h => h) (yieldsIf_load_at (by rfl) 40 _ rfl ada rfl (flL flA) _ (fun Y h => ca Y h) Try.underlying40 rfl info_fl) (by assumption) ?_
  try simp only [Act.put, List.setIfInBounds_toArray, List.set_cons_zero, List.set_cons_succ]
  refine wpAnyH_take (i := 33) (oi := ⟨some 70, _, _, _, _, _⟩) (v := (flV flA)) rfl (by kernel_rfl) (by kernel_rfl) (by kernel_rfl) (fun _ _ _ h => h) (yieldsIf_load_at (by rfl) 40 _ rfl ⟨g2, 0, none⟩ rfl (flL flA) _ (fun Y h => (B5.out.box.keep h B5.out.box.lt).at) Try.underlying40 rfl info_fl) (by assumption) ?_
  try simp only [Act.put, List.setIfInBounds_toArray, List.set_cons_zero, List.set_cons_succ]
  refine wpAnyH_take (i := 34) (oi := ⟨some 71, _, _, _, _, _⟩) (v := ?_) rfl (by kernel_rfl) (by kernel_rfl) (by kernel_rfl) (fun _ _ _ h => h) (Or.inl ⟨by rfl, ?_⟩) (by assumption) ?_
  rotate_left
  · intro w hSw; (try dsimp only at hSw); go_simp; (try with_reducible rfl)
  try simp only [Act.put, List.setIfInBounds_toArray, List.set_cons_zero, List.set_cons_succ]
  refine wpAnyH_take (i := 35) (oi := ⟨some 72, _, _, _, _, _⟩) (v := ?_) rfl (by kernel_rfl) (by kernel_rfl) (by kernel_rfl) (fun _ _ _ h => h) (Or.inl ⟨by rfl, ?_⟩) (by assumption) ?_
  rotate_left
  · intro w hSw; (try dsimp only at hSw); go_simp; (try with_reducible rfl)
  try simp only [Act.put, List.setIfInBounds_toArray, List.set_cons_zero, List.set_cons_succ]
  refine wpAnyH_take (i := 36) (oi := ⟨some 73, _, _, _, _, _⟩) (v := ?_) rfl (by kernel_rfl) (by kernel_rfl) (by kernel_rfl) (fun _ _ _ h => h) (Or.inl ⟨by rfl, ?_⟩) (by assumption) ?_
  rotate_left
  · intro w hSw; (try dsimp only at hSw); go_simp; (try with_reducible rfl)
  try simp only [Act.put, List.setIfInBounds_toArray, List.set_cons_zero, List.set_cons_succ]
  refine wpAnyH_take (i := 37) (oi := ⟨some 74, _, _, _, _, _⟩) (v := ?_) rfl (by kernel_rfl) (by kernel_rfl) (by kernel_rfl) (fun _ _ _ h => h) (Or.inl ⟨by rfl, ?_⟩) (by assumption) ?_
  rotate_left
  · intro w hSw; (try dsimp only at hSw); go_simp; (try with_reducible rfl)
  try simp only [Act.put, List.setIfInBounds_toArray, List.set_cons_zero, List.set_cons_succ]
  refine wpAnyH_ready (rs := [38]) (by kernel_rfl) (by simp) (AllReadyH.cons (o := ⟨some 75, _, _, _, _, _⟩) rfl (fun Kc hKc => ?_) AllReadyH.nil)
  go_simp
  go_at_call 16; refine (K.len_ (H5.out.call hHeld).rep 0 q5.out).mono ?_; rintro e w6 ⟨rfl, y6⟩; dsimp only
  refine hKc.out _ _ (hHeld.trans (y6.mono hHeld.size)) (fun hHeld => ?_)
  clear hKc Kc
  try simp only [Act.put, List.setIfInBounds_toArray, List.set_cons_zero, List.set_cons_succ]
  refine wpAnyH_take (i := 39) (oi := ⟨some 76, _, _, _, _, _⟩) (v := ?_) rfl (by kernel_rfl) (by kernel_rfl) (by kernel_rfl) (fun _ _ _ h => h) (Or.inl ⟨by rfl, ?_⟩) (by assumption) ?_
  rotate_left
  · intro w hSw; (try dsimp only at hSw); go_simp; (try with_reducible rfl)
  try simp only [Act.put, List.setIfInBounds_toArray, List.set_cons_zero, List.set_cons_succ]
  refine wpAnyH_take (i := 40) (oi := ⟨some 77, _, _, _, _, _⟩) (v := ?_) rfl (by kernel_rfl) (by kernel_rfl) (by kernel_rfl) (fun _ _ _ h => h) (Or.inl ⟨by rfl, ?_⟩) (by assumption) ?_
  rotate_left
  · intro w hSw; (try dsimp only at hSw); go_simp; (try with_reducible rfl)
  try simp only [Act.put, List.setIfInBounds_toArray, List.set_cons_zero, List.set_cons_succ]
  refine wpAnyH_take (i := 41) (oi := ⟨some 0, _, _, _, _, _⟩) (v := ?_) rfl (by kernel_rfl) (by kernel_rfl) (by kernel_rfl) (fun _ _ _ h => h) (Or.inl ⟨by rfl, ?_⟩) (by assumption) ?_
  rotate_left
  · intro w hSw; (try dsimp only at hSw); go_simp; (try with_reducible rfl)
  try simp only [Act.put, List.setIfInBounds_toArray, List.set_cons_zero, List.set_cons_succ]
  refine wpAnyH_done (by kernel_rfl) ?_ _
  have yq := hHeld
  clear hHeld
  go_wp2
  go_ret
  exact ⟨rfl, (H5.out.call yq).below⟩
end Go.Proofs.Ytofpalmghdapkaa
