/- Lemmas, several texts in one. -/
import Derived.Test.YtgapcfplicgmaaaQ01
import Derived.Laws.Bits
import Derived.Deep.MidRow
import Derived.Deep.WholeRow
import Derived.Deep.RegionHeld3
import Derived.Deep.DeepCutAuto
/- Tuples: who speaks to whom: plain mathematics. -/
namespace Go.Proofs.Ytgapcfplicgmaaa
open Go.RowKit
set_option linter.unusedVariables false

structure Tp where
  proto : Int
  src : Int
  sport : Int
  dst : Int
  dport : Int
abbrev tp0 : Tp := ⟨0, 0, 0, 0, 0⟩
def sameTp (a b : Tp) : Bool := a.proto == b.proto && (a.src == b.src && (a.sport == b.sport && (a.dst == b.dst && a.dport == b.dport)))
theorem sameTp_iff (a b : Tp) : sameTp a b = true ↔ a = b := by cases a; cases b; simp [sameTp]
/-- what a tuple's numbers may be in memory. -/
structure RngTp (t : Tp) : Prop where
  s0 : 0 ≤ t.src
  s1 : t.src ≤ 4294967295
  d0 : 0 ≤ t.dst
  d1 : t.dst ≤ 4294967295
def turnT (t : Tp) : Tp := ⟨t.proto, t.dst, t.dport, t.src, t.sport⟩
theorem turn_turn (t : Tp) : turnT (turnT t) = t := rfl
def inT (n m : Int) : Bool := decide (0 ≤ n) && decide (n < m)
def rightT (t : Tp) : Bool := inT t.proto 256 && (inT t.sport 65536 && inT t.dport 65536)
theorem rightT_iff (t : Tp) : rightT t = true ↔ (0 ≤ t.proto ∧ t.proto < 256) ∧ (0 ≤ t.sport ∧ t.sport < 65536) ∧ (0 ≤ t.dport ∧ t.dport < 65536) := by simp [rightT, inT]
theorem right_turn (t : Tp) : rightT (turnT t) = rightT t := by
  rw [Bool.eq_iff_iff, rightT_iff, rightT_iff]
  unfold turnT
  dsimp only
  omega
theorem turn_same (t : Tp) : turnT t = t ↔ t.src = t.dst ∧ t.sport = t.dport := by
  cases t
  simp [turnT]
  omega
/-- the numbers of a tuple, as its bytes have them, the weightiest first. -/
def numsT (t : Tp) : List Int := [t.proto % 256, t.src, t.sport % 65536, t.dst, t.dport % 65536]
def lessL : List Int → List Int → Bool
  | a :: x, b :: y => if a = b then lessL x y else decide (a < b)
  | _, _ => false
def lessT (a b : Tp) : Bool := lessL (numsT a) (numsT b)
theorem lessL_irr : ∀ x : List Int, lessL x x = false
  | [] => rfl
  | a :: x => by rw [lessL, if_pos rfl]; exact lessL_irr x
theorem lessL_asym : ∀ x y : List Int, lessL x y = true → lessL y x = false
  | [], [], h => by cases h
  | [], _ :: _, h => by cases h
  | _ :: _, [], h => by cases h
  | a :: x, b :: y, h => by
    rw [lessL] at h ⊢
    split at h
    · rename_i e; rw [if_pos e.symm]; exact lessL_asym x y h
    · rename_i e
      rw [if_neg (fun e' => e e'.symm)]
      simp at h ⊢
      omega
theorem lessL_total : ∀ x y : List Int, x.length = y.length → x ≠ y → lessL x y = true ∨ lessL y x = true
  | [], [], _, h => absurd rfl h
  | [], _ :: _, h, _ => by cases h
  | _ :: _, [], h, _ => by cases h
  | a :: x, b :: y, hl, h => by
    rw [lessL, lessL]
    by_cases e : a = b
    · rw [if_pos e, if_pos e.symm]
      exact lessL_total x y (by simpa using hl) (fun h' => h (by rw [e, h']))
    · rw [if_neg e, if_neg (fun e' => e e'.symm)]
      simp only [decide_eq_true_eq]
      omega
theorem lessL_trans : ∀ x y z : List Int, lessL x y = true → lessL y z = true → lessL x z = true
  | [], _, _, h, _ => by cases h
  | _ :: _, [], _, h, _ => by cases h
  | _ :: _, _ :: _, [], _, h => by cases h
  | a :: x, b :: y, c :: z, h1, h2 => by
    rw [lessL] at h1 h2 ⊢
    by_cases e1 : a = b
    · rw [if_pos e1] at h1
      by_cases e2 : b = c
      · rw [if_pos e2] at h2
        rw [if_pos (e1.trans e2)]
        exact lessL_trans x y z h1 h2
      · rw [if_neg e2] at h2
        rw [if_neg (fun e => e2 (e1 ▸ e)), e1]
        exact h2
    · rw [if_neg e1] at h1
      by_cases e2 : b = c
      · rw [if_neg (fun e => e1 (e.trans e2.symm)), ← e2]
        exact h1
      · rw [if_neg e2] at h2
        simp only [decide_eq_true_eq] at h1 h2
        rw [if_neg (by omega)]
        simp only [decide_eq_true_eq]
        omega
/-- right tuples whose numbers are the same are the same. -/
theorem nums_right {a b : Tp} (ha : rightT a = true) (hb : rightT b = true) (h : numsT a = numsT b) : a = b := by
  rw [rightT_iff] at ha hb
  cases a
  cases b
  simp [numsT] at h
  dsimp only at ha hb
  simp only [Tp.mk.injEq]
  omega
theorem order_two {a b : Tp} (ha : rightT a = true) (hb : rightT b = true) : (lessT a b && lessT b a) = false ∧ (lessT a b || lessT b a) = !sameTp a b := by
  unfold lessT
  by_cases h : a = b
  · subst h
    rw [lessL_irr, (sameTp_iff a a).2 rfl]
    exact ⟨rfl, rfl⟩
  · have hs : sameTp a b = false := by
      cases hq : sameTp a b
      · rfl
      · exact absurd ((sameTp_iff a b).1 hq) h
    rw [hs]
    rcases lessL_total (numsT a) (numsT b) rfl (fun e => h (nums_right ha hb e)) with k | k
    · rw [k, lessL_asym _ _ k]; exact ⟨rfl, rfl⟩
    · rw [k, lessL_asym _ _ k]; exact ⟨rfl, rfl⟩
theorem order_three {a b c : Tp} (h1 : lessT a b = true) (h2 : lessT b c = true) : lessT a c = true := lessL_trans _ _ _ h1 h2
/-- a byte into the hash. -/
def hashS (h c : Int) : Int := (bits .xor .u32 h c * 16777619) % 4294967296
def hashL (h : Int) (l : List Int) : Int := l.foldl hashS h
/-- the bytes of a tuple. -/
def bytesT (t : Tp) : List Int := [t.proto % 256, t.src / 16777216, t.src / 65536 % 256, t.src / 256 % 256, t.src % 256, t.sport % 65536 / 256, t.sport % 256,
  t.dst / 16777216, t.dst / 65536 % 256, t.dst / 256 % 256, t.dst % 256, t.dport % 65536 / 256, t.dport % 256]
def hashT (t : Tp) (seed : Int) : Int := hashL (bits .xor .u32 2166136261 seed) (bytesT t)
/-- what asks or answers. -/
def asksT (k : Int) : Bool := k == 0 || (k == 8 || (k == 13 || k == 14))
def ofP (p : Pk) : Tp × Int :=
  if p.mf = true ∨ p.off ≠ 0 then (tp0, 7)
  else if p.proto = 6 then (if (prsT p.src p.dst p.body).1 = 0 then (⟨p.proto, p.src, (prsT p.src p.dst p.body).2.sport, p.dst, (prsT p.src p.dst p.body).2.dport⟩, 0) else (tp0, (prsT p.src p.dst p.body).1))
  else if p.proto = 17 then (if (prsU p.src p.dst p.body).1 = 0 then (⟨p.proto, p.src, (prsU p.src p.dst p.body).2.sport, p.dst, (prsU p.src p.dst p.body).2.dport⟩, 0) else (tp0, (prsU p.src p.dst p.body).1))
  else if p.proto = 1 then (if (prsI p.body).1 = 0 then (if asksT (prsI p.body).2.type = true then (⟨p.proto, p.src, (prsI p.body).2.rest / 65536, p.dst, (prsI p.body).2.rest / 65536⟩, 0) else (tp0, 9)) else (tp0, (prsI p.body).1))
  else (tp0, 9)
/-- an echo's tuple. -/
theorem of_echo (k code rest src dst : Int) (hk : k = 8 ∨ k = 0) (c0 : 0 ≤ code) (c1 : code ≤ 255) (r0 : 0 ≤ rest) (r1 : rest ≤ 4294967295) :
    ofP ⟨0, 0, false, false, 0, 0, 1, src, dst, [], putI ⟨k, code, rest, []⟩⟩ = (⟨1, src, rest / 65536, dst, rest / 65536⟩, 0) := by
  have h : prsI (putI ⟨k, code, rest, []⟩) = (0, ⟨k, code, rest, []⟩) := prs_putI _ ((mayI_iff _).1 (by unfold mayI inB; dsimp only; rcases hk with rfl | rfl <;> simp <;> omega)) ⟨r0, r1⟩
  unfold ofP
  dsimp only
  rw [if_neg (by simp), if_neg (by decide), if_neg (by decide), if_pos rfl, h]
  dsimp only
  rw [if_pos rfl, if_pos (by rcases hk with rfl | rfl <;> rfl)]
end Go.Proofs.Ytgapcfplicgmaaa

/- Tables of keys without a list: plain mathematics. -/
namespace Go.Proofs.Ytgapcfplicgmaaa
open Go.RowKit
set_option linter.unusedVariables false

structure Cl where
  used : Bool
  key : Tp
  num : Int
abbrev cl0 : Cl := ⟨false, tp0, 0⟩
def usedN (l : List Cl) : Nat := l.countP Cl.used
def homeC (k : Tp) (n : Nat) : Nat := (hashT k 0).toNat % n
def atC (l : List Cl) (p : Nat) : Cl := l.getD p cl0
def stopC (l : List Cl) (k : Tp) (p : Nat) : Bool := !(atC l p).used || sameTp (atC l p).key k
/-- how far from its home a key is looked for. -/
def farC (l : List Cl) (k : Tp) : Nat := (List.range l.length).findIdx (fun i => stopC l k ((homeC k l.length + i) % l.length))
def seekP (l : List Cl) (k : Tp) : Nat := (homeC k l.length + farC l k) % l.length
def sizeC (n : Nat) : Bool := [2, 4, 8, 16, 32, 64, 128, 256, 512, 1024].contains n
/-- a right table. -/
structure RightC (l : List Cl) : Prop where
  size : sizeC l.length = true
  room : usedN l < l.length
  cell : ∀ i, i < l.length → ((atC l i).used = true → farC l (atC l i).key < l.length ∧ seekP l (atC l i).key = i ∧ rightT (atC l i).key = true) ∧ ((atC l i).used = false → atC l i = cl0)
theorem atC_get {l : List Cl} {i : Nat} (h : i < l.length) : atC l i = l[i] := by unfold atC; rw [List.getD_eq_getElem?_getD, List.getElem?_eq_getElem h]; rfl
theorem atC_set {l : List Cl} {i : Nat} (h : i < l.length) (c : Cl) (j : Nat) : atC (l.set i c) j = if i = j then c else atC l j := by
  unfold atC
  rw [List.getD_eq_getElem?_getD, List.getD_eq_getElem?_getD, List.getElem?_set]
  split
  · rename_i e
    subst e
    first | rfl | (rw [if_pos h]; rfl)
  · rfl
theorem sizeC_pos {n : Nat} (h : sizeC n = true) : 2 ≤ n ∧ n ≤ 1024 := by
  unfold sizeC at h
  simp at h
  omega
theorem homeC_lt (k : Tp) {n : Nat} (h : 0 < n) : homeC k n < n := Nat.mod_lt _ h
/-- where a search ends. -/
theorem far_is {l : List Cl} {k : Tp} {i : Nat} (hi : i < l.length) (h : stopC l k ((homeC k l.length + i) % l.length) = true) (h0 : ∀ j, j < i → stopC l k ((homeC k l.length + j) % l.length) = false) : farC l k = i := by
  unfold farC
  rw [List.findIdx_eq (by rw [List.length_range]; exact hi)]
  refine ⟨by rw [List.getElem_range]; exact h, fun j hj => ?_⟩
  rw [List.getElem_range]
  exact h0 j hj
theorem far_stop {l : List Cl} {k : Tp} (h : farC l k < l.length) : stopC l k (seekP l k) = true := by
  have := List.findIdx_getElem (xs := List.range l.length) (p := fun i => stopC l k ((homeC k l.length + i) % l.length)) (w := by rw [List.length_range]; exact h)
  rw [List.getElem_range] at this
  exact this
theorem far_go {l : List Cl} {k : Tp} {j : Nat} (h : j < farC l k) : stopC l k ((homeC k l.length + j) % l.length) = false := by
  have hl : j < l.length := Nat.lt_of_lt_of_le h (by unfold farC; have := List.findIdx_le_length (xs := List.range l.length) (p := fun i => stopC l k ((homeC k l.length + i) % l.length)); rwa [List.length_range] at this)
  have := List.not_of_lt_findIdx (xs := List.range l.length) (p := fun i => stopC l k ((homeC k l.length + i) % l.length)) h
  rw [List.getElem_range] at this
  simpa using this
theorem far_le {l : List Cl} {k : Tp} {i : Nat} (hi : i < l.length) (h : stopC l k ((homeC k l.length + i) % l.length) = true) : farC l k ≤ i := by
  apply Nat.le_of_not_lt
  intro hlt
  rw [far_go hlt] at h
  cases h
/-- an empty place ends any search. -/
theorem used_lt {l : List Cl} (h : usedN l < l.length) : ∃ i, i < l.length ∧ (atC l i).used = false := by
  apply Classical.byContradiction
  intro hn
  have : usedN l = l.length := by
    unfold usedN
    rw [List.countP_eq_length]
    intro c hc
    obtain ⟨i, hi, rfl⟩ := List.getElem_of_mem hc
    cases hu : (l[i]).used
    · exact absurd ⟨i, hi, by rw [atC_get hi]; exact hu⟩ hn
    · rfl
  omega
/-- from a place to another one, forward. -/
def distC (n h q : Nat) : Nat := (q + n - h) % n
theorem dist_lt (n h q : Nat) (hn : 0 < n) : distC n h q < n := Nat.mod_lt _ hn
theorem dist_at {n h q : Nat} (hh : h < n) (hq : q < n) : (h + distC n h q) % n = q := by
  unfold distC
  by_cases hle : h ≤ q
  · rw [show q + n - h = (q - h) + n by omega, Nat.add_mod_right, Nat.mod_eq_of_lt (show q - h < n by omega), show h + (q - h) = q by omega, Nat.mod_eq_of_lt hq]
  · rw [Nat.mod_eq_of_lt (show q + n - h < n by omega), show h + (q + n - h) = q + n by omega, Nat.add_mod_right, Nat.mod_eq_of_lt hq]
theorem dist_of {n h i : Nat} (hh : h < n) (hi : i < n) : distC n h ((h + i) % n) = i := by
  unfold distC
  by_cases hle : h + i < n
  · rw [Nat.mod_eq_of_lt hle, show h + i + n - h = i + n by omega, Nat.add_mod_right, Nat.mod_eq_of_lt hi]
  · have e : (h + i) % n = h + i - n := by rw [Nat.mod_eq_sub_mod (by omega), Nat.mod_eq_of_lt (by omega)]
    rw [e, show h + i - n + n - h = i by omega, Nat.mod_eq_of_lt hi]
theorem dist_inj {n h i j : Nat} (hh : h < n) (hi : i < n) (hj : j < n) (e : (h + i) % n = (h + j) % n) : i = j := by
  rw [← dist_of hh hi, e, dist_of hh hj]
theorem far_lt {l : List Cl} (k : Tp) (h : usedN l < l.length) : farC l k < l.length := by
  obtain ⟨i, hi, hu⟩ := used_lt h
  have hh := homeC_lt k (show 0 < l.length by omega)
  have hd := dist_lt l.length (homeC k l.length) i (by omega)
  refine Nat.lt_of_le_of_lt (far_le hd ?_) hd
  rw [dist_at hh hi]
  unfold stopC
  rw [hu]; rfl
/-- the keys are each there once, and no empty place stands between a key and its home. -/
structure GoodC (l : List Cl) : Prop where
  path : ∀ q, q < l.length → (atC l q).used = true → ∀ j, j < distC l.length (homeC (atC l q).key l.length) q → (atC l ((homeC (atC l q).key l.length + j) % l.length)).used = true
  once : ∀ p q, p < l.length → q < l.length → (atC l p).used = true → (atC l q).used = true → (atC l p).key = (atC l q).key → p = q
theorem stop_no {l : List Cl} {k : Tp} {p : Nat} (h1 : (atC l p).used = true) (h2 : (atC l p).key ≠ k) : stopC l k p = false := by
  unfold stopC
  rw [h1]
  cases h : sameTp (atC l p).key k
  · rfl
  · exact absurd ((sameTp_iff _ _).1 h) h2
theorem stop_of {l : List Cl} {k : Tp} {p : Nat} (h : stopC l k p = false) : (atC l p).used = true ∧ (atC l p).key ≠ k := by
  unfold stopC at h
  cases h1 : (atC l p).used
  · rw [h1] at h; cases h
  · rw [h1] at h
    refine ⟨rfl, fun e => ?_⟩
    rw [(sameTp_iff _ _).2 e] at h
    cases h
theorem stop_key {l : List Cl} {k : Tp} {p : Nat} (h : (atC l p).key = k) : stopC l k p = true := by
  unfold stopC
  rw [(sameTp_iff _ _).2 h]
  simp
theorem GoodC.find {l : List Cl} (g : GoodC l) {q : Nat} (hq : q < l.length) (hu : (atC l q).used = true) : farC l (atC l q).key = distC l.length (homeC (atC l q).key l.length) q ∧ seekP l (atC l q).key = q := by
  have hh := homeC_lt (atC l q).key (show 0 < l.length by omega)
  have hd := dist_lt l.length (homeC (atC l q).key l.length) q (by omega)
  have he := dist_at hh hq
  have h1 : farC l (atC l q).key = distC l.length (homeC (atC l q).key l.length) q := by
    refine far_is hd (by rw [he]; exact stop_key rfl) fun j hj => ?_
    refine stop_no (g.path q hq hu j hj) fun e => ?_
    have hp : (homeC (atC l q).key l.length + j) % l.length < l.length := Nat.mod_lt _ (by omega)
    have := g.once _ q hp hq (g.path q hq hu j hj) hu e
    have h3 := dist_of hh (show j < l.length by omega)
    rw [this] at h3
    omega
  exact ⟨h1, by unfold seekP; rw [h1, he]⟩
theorem RightC.good {l : List Cl} (r : RightC l) : GoodC l := by
  refine ⟨fun q hq hu j hj => ?_, fun p q hp hq hup huq e => ?_⟩
  · obtain ⟨h1, h2, _⟩ := (r.cell q hq).1 hu
    have hh := homeC_lt (atC l q).key (show 0 < l.length by omega)
    have h3 := dist_of hh h1
    unfold seekP at h2
    rw [h2] at h3
    exact (stop_of (far_go (by omega))).1
  · have h1 := ((r.cell p hp).1 hup).2.1
    have h2 := ((r.cell q hq).1 huq).2.1
    rw [e] at h1
    exact h1.symm.trans h2
theorem RightC.of {l : List Cl} (h1 : sizeC l.length = true) (h2 : usedN l < l.length) (g : GoodC l) (hr : ∀ i, i < l.length → (atC l i).used = true → rightT (atC l i).key = true) (h0 : ∀ i, i < l.length → (atC l i).used = false → atC l i = cl0) : RightC l :=
  ⟨h1, h2, fun i hi => ⟨fun hu => ⟨far_lt _ h2, (g.find hi hu).2, hr i hi hu⟩, h0 i hi⟩⟩
/-- a key is there. -/
def HasC (l : List Cl) (k : Tp) (n : Int) : Prop := ∃ q, q < l.length ∧ atC l q = ⟨true, k, n⟩
/-- what a search finds in a right table. -/
theorem RightC.seek {l : List Cl} (r : RightC l) (k : Tp) : seekP l k < l.length ∧ ((atC l (seekP l k)).used = true → (atC l (seekP l k)).key = k) ∧ ((atC l (seekP l k)).used = false → ∀ q, q < l.length → (atC l q).used = true → (atC l q).key ≠ k) := by
  have hf := far_lt k r.room
  have hs := far_stop hf
  have hl : seekP l k < l.length := Nat.mod_lt _ (by omega)
  refine ⟨hl, fun hu => ?_, fun hu q hq hq2 e => ?_⟩
  · unfold stopC at hs
    rw [hu] at hs
    exact (sameTp_iff _ _).1 (by simpa using hs)
  · have := (r.good.find hq hq2).2
    rw [e] at this
    rw [this] at hu
    rw [hu] at hq2
    cases hq2
theorem RightC.has {l : List Cl} (r : RightC l) (k : Tp) (n : Int) : HasC l k n ↔ ((atC l (seekP l k)).used = true ∧ (atC l (seekP l k)).num = n) := by
  obtain ⟨hl, h1, h2⟩ := r.seek k
  constructor
  · rintro ⟨q, hq, e⟩
    have hu : (atC l q).used = true := by rw [e]
    have hk : (atC l q).key = k := by rw [e]
    have := (r.good.find hq hu).2
    rw [hk] at this
    rw [this, e]
    exact ⟨rfl, rfl⟩
  · rintro ⟨hu, hn⟩
    refine ⟨_, hl, ?_⟩
    have := h1 hu
    cases hc : atC l (seekP l k)
    rw [hc] at hu hn this
    dsimp only at hu hn this
    rw [hu, hn, this]
theorem used_set {l : List Cl} {i : Nat} (h : i < l.length) (c : Cl) : usedN (l.set i c) + (if (atC l i).used then 1 else 0) = usedN l + (if c.used then 1 else 0) := by
  unfold usedN
  rw [List.countP_set h, atC_get h]
  have : 0 < l.countP Cl.used ∨ (l[i]).used = false := by
    cases hu : (l[i]).used
    · exact .inr rfl
    · exact .inl (List.countP_pos_iff.2 ⟨l[i], List.getElem_mem h, hu⟩)
  cases hu : (l[i]).used <;> cases hc : c.used
  · simp
  · simp
  · rw [hu] at this
    have p : 0 < l.countP Cl.used := by rcases this with h | h; exact h; cases h
    generalize l.countP Cl.used = m at *
    simp
    omega
  · rw [hu] at this
    have p : 0 < l.countP Cl.used := by rcases this with h | h; exact h; cases h
    generalize l.countP Cl.used = m at *
    simp
    omega
end Go.Proofs.Ytgapcfplicgmaaa

/- Tables of keys without a list: a key is put; a key is taken out: plain mathematics. -/
namespace Go.Proofs.Ytgapcfplicgmaaa
open Go.RowKit
set_option linter.unusedVariables false

theorem RightC.put {l : List Cl} (r : RightC l) {k : Tp} (n : Int) (hk : rightT k = true) (hu : (atC l (seekP l k)).used = false) (hr : usedN l + 1 < l.length) :
    RightC (l.set (seekP l k) ⟨true, k, n⟩) ∧ usedN (l.set (seekP l k) ⟨true, k, n⟩) = usedN l + 1 ∧ ∀ k' n', HasC (l.set (seekP l k) ⟨true, k, n⟩) k' n' ↔ ((k' = k ∧ n' = n) ∨ HasC l k' n') := by
  obtain ⟨hs, _, hno⟩ := r.seek k
  have hno := hno hu
  have hlen : (l.set (seekP l k) ⟨true, k, n⟩).length = l.length := List.length_set
  have hA : ∀ j, atC (l.set (seekP l k) ⟨true, k, n⟩) j = if seekP l k = j then ⟨true, k, n⟩ else atC l j := atC_set hs _
  have hh := homeC_lt k (show 0 < l.length by omega)
  have hf := far_lt k r.room
  have hcnt : usedN (l.set (seekP l k) ⟨true, k, n⟩) = usedN l + 1 := by
    have := used_set hs ⟨true, k, n⟩
    rw [hu] at this
    simpa using this
  have g := r.good
  generalize hl' : l.set (seekP l k) ⟨true, k, n⟩ = l' at *
  have up : ∀ j, (atC l j).used = true → (atC l' j).used = true := fun j h => by
    rw [hA]; split
    · rfl
    · exact h
  have G : GoodC l' := by
    refine ⟨fun q hq hq2 j hj => ?_, fun p q hp hq h1 h2 e => ?_⟩
    · rw [hlen] at hq hj ⊢
      by_cases hqs : seekP l k = q
      · have eq : atC l' q = ⟨true, k, n⟩ := by rw [hA, if_pos hqs]
        rw [eq] at hj ⊢
        dsimp only at hj ⊢
        have hd := dist_of hh hf
        rw [show (homeC k l.length + farC l k) % l.length = q from hqs] at hd
        rw [hd] at hj
        exact up _ (stop_of (far_go hj)).1
      · have eq : atC l' q = atC l q := by rw [hA, if_neg hqs]
        rw [eq] at hq2 hj ⊢
        exact up _ (g.path q hq hq2 j hj)
    · rw [hlen] at hp hq
      rw [hA] at h1 e
      rw [hA q] at h2 e
      by_cases hps : seekP l k = p
      · by_cases hqs : seekP l k = q
        · exact hps.symm.trans hqs
        · rw [if_pos hps, if_neg hqs] at e
          rw [if_neg hqs] at h2
          exact absurd e.symm (hno q hq h2)
      · by_cases hqs : seekP l k = q
        · rw [if_neg hps, if_pos hqs] at e
          rw [if_neg hps] at h1
          exact absurd e (hno p hp h1)
        · rw [if_neg hps] at h1 e
          rw [if_neg hqs] at h2 e
          exact g.once p q hp hq h1 h2 e
  refine ⟨RightC.of (by rw [hlen]; exact r.size) (by rw [hcnt, hlen]; exact hr) G (fun i hi hui => ?_) (fun i hi hui => ?_), hcnt, fun k' n' => ?_⟩
  · rw [hlen] at hi
    rw [hA] at hui ⊢
    split
    · exact hk
    · rename_i h
      rw [if_neg h] at hui
      exact ((r.cell i hi).1 hui).2.2
  · rw [hlen] at hi
    rw [hA] at hui ⊢
    split
    · rename_i h
      rw [if_pos h] at hui
      cases hui
    · rename_i h
      rw [if_neg h] at hui
      exact (r.cell i hi).2 hui
  · constructor
    · rintro ⟨q, hq, e⟩
      rw [hlen] at hq
      rw [hA] at e
      split at e
      · injection e with _ e1 e2
        exact .inl ⟨e1.symm, e2.symm⟩
      · exact .inr ⟨q, hq, e⟩
    · rintro (⟨rfl, rfl⟩ | ⟨q, hq, e⟩)
      · exact ⟨seekP l k', by rw [hlen]; exact hs, by rw [hA, if_pos rfl]⟩
      · refine ⟨q, by rw [hlen]; exact hq, ?_⟩
        rw [hA, if_neg (fun h => by rw [h] at hu; rw [e] at hu; cases hu)]
        exact e

/-- a key that is taken out and put anew. -/
def reputC (l : List Cl) (i : Nat) : List Cl := (l.set i cl0).set (seekP (l.set i cl0) (atC l i).key) (atC l i)
def delF : Nat → List Cl → Nat → List Cl
  | 0, l, _ => l
  | f + 1, l, i => if (atC l i).used then delF f (reputC l i) ((i + 1) % l.length) else l
def takeC (l : List Cl) (at_ : Nat) : List Cl := delF l.length (l.set at_ cl0) ((at_ + 1) % l.length)
/-- all places from m on up to q, told from at, have keys. -/
def RunC (l : List Cl) (n at_ m q : Nat) : Prop := m ≤ distC n at_ q ∧ ∀ o, m ≤ o → o ≤ distC n at_ q → (atC l ((at_ + o) % n)).used = true
/-- while keys are put anew: only the places behind the hole, up to m, may be missed. -/
structure DelI (n at_ m E : Nat) (l : List Cl) : Prop where
  len : l.length = n
  a : at_ < n
  m1 : 1 ≤ m
  e0 : m ≤ E
  e1 : E < n
  emp : (atC l ((at_ + E) % n)).used = false
  path : ∀ q, q < n → (atC l q).used = true → ∀ j, j < distC n (homeC (atC l q).key n) q → (atC l ((homeC (atC l q).key n + j) % n)).used = true ∨ (distC n at_ ((homeC (atC l q).key n + j) % n) < m ∧ RunC l n at_ m q)
  once : ∀ p q, p < n → q < n → (atC l p).used = true → (atC l q).used = true → (atC l p).key = (atC l q).key → p = q
  keys : ∀ q, q < n → (atC l q).used = true → rightT (atC l q).key = true
  zero : ∀ q, q < n → (atC l q).used = false → atC l q = cl0
theorem DelI.end {n at_ m E : Nat} {l : List Cl} (h : DelI n at_ m E l) (hu : (atC l ((at_ + m) % n)).used = false) : GoodC l := by
  refine ⟨fun q hq hq2 j hj => ?_, fun p q hp hq => by rw [h.len] at hp hq; exact h.once p q hp hq⟩
  rw [h.len] at hq hj ⊢
  rcases h.path q hq hq2 j hj with k | ⟨_, k1, k2⟩
  · exact k
  · rw [k2 m (Nat.le_refl _) k1] at hu
    cases hu
theorem add_mod3 (a b c n : Nat) : ((a + b) % n + c) % n = (a + (b + c)) % n := by rw [Nat.mod_add_mod, Nat.add_assoc]
/-- a right table whose key was taken out. -/
theorem RightC.hole {l : List Cl} (r : RightC l) {at_ : Nat} (ha : at_ < l.length) (hu : (atC l at_).used = true) : ∃ E, DelI l.length at_ 1 E (l.set at_ cl0) := by
  obtain ⟨i, hi, hiu⟩ := used_lt r.room
  have g := r.good
  have hA : ∀ j, atC (l.set at_ cl0) j = if at_ = j then cl0 else atC l j := atC_set ha _
  have hne : at_ ≠ i := fun e => by rw [← e, hu] at hiu; cases hiu
  have hd := dist_at ha hi
  have hdl := dist_lt l.length at_ i (by omega)
  have hd0 : 1 ≤ distC l.length at_ i := by
    rcases Nat.eq_zero_or_pos (distC l.length at_ i) with h0 | h0
    · rw [h0, Nat.add_zero, Nat.mod_eq_of_lt ha] at hd; exact absurd hd hne
    · exact h0
  refine ⟨distC l.length at_ i, List.length_set, ha, Nat.le_refl _, hd0, hdl, by rw [hd, hA, if_neg hne]; exact hiu, fun q hq hq2 j hj => ?_, fun p q hp hq h1 h2 e => ?_, fun q hq hq2 => ?_, fun q hq hq2 => ?_⟩
  · have hqa : at_ ≠ q := fun e => by rw [hA, if_pos e] at hq2; cases hq2
    have eq : atC (l.set at_ cl0) q = atC l q := by rw [hA, if_neg hqa]
    rw [eq] at hq2 hj ⊢
    have hh := homeC_lt (atC l q).key (show 0 < l.length by omega)
    have hdq := dist_at hh hq
    have hdl2 := dist_lt l.length (homeC (atC l q).key l.length) q (by omega)
    generalize hH : homeC (atC l q).key l.length = H at *
    have hP := g.path q hq hq2
    rw [hH] at hP
    generalize hD : distC l.length H q = D at *
    by_cases hr : at_ = (H + j) % l.length
    · right
      have hdq2 : distC l.length at_ q = D - j := by
        have : (at_ + (D - j)) % l.length = q := by rw [hr, add_mod3, show j + (D - j) = D by omega]; exact hdq
        rw [← this]
        exact dist_of ha (by omega)
      refine ⟨?_, by rw [hdq2]; omega, fun o o1 o2 => ?_⟩
      · rw [← hr]
        have : distC l.length at_ at_ = 0 := by
          have := dist_of ha (show 0 < l.length by omega)
          rwa [Nat.add_zero, Nat.mod_eq_of_lt ha] at this
        omega
      · rw [hdq2] at o2
        have hne2 : at_ ≠ (at_ + o) % l.length := fun e => by
          have h1 := dist_of ha (show o < l.length by omega)
          have h2 := dist_of ha (show 0 < l.length by omega)
          rw [Nat.add_zero, Nat.mod_eq_of_lt ha] at h2
          rw [← e, h2] at h1
          omega
        rw [hA, if_neg hne2]
        have e3 : (at_ + o) % l.length = (H + (j + o)) % l.length := by rw [hr, add_mod3]
        rw [e3]
        by_cases ho : j + o < D
        · exact hP _ ho
        · rw [show j + o = D by omega, hdq]; exact hq2
    · left
      rw [hA, if_neg hr]
      exact hP j hj
  · rw [hA] at h1 e
    rw [hA q] at h2 e
    by_cases hpa : at_ = p
    · rw [if_pos hpa] at h1; cases h1
    · by_cases hqa : at_ = q
      · rw [if_pos hqa] at h2; cases h2
      · rw [if_neg hpa] at h1 e
        rw [if_neg hqa] at h2 e
        exact g.once p q hp hq h1 h2 e
  · rw [hA] at hq2 ⊢
    by_cases hqa : at_ = q
    · rw [if_pos hqa] at hq2; cases hq2
    · rw [if_neg hqa] at hq2 ⊢
      exact ((r.cell q hq).1 hq2).2.2
  · rw [hA] at hq2 ⊢
    by_cases hqa : at_ = q
    · rw [if_pos hqa]
    · rw [if_neg hqa] at hq2 ⊢
      exact (r.cell q hq).2 hq2
end Go.Proofs.Ytgapcfplicgmaaa

/- Tables of keys without a list: what follows a hole is put anew: plain mathematics. -/
namespace Go.Proofs.Ytgapcfplicgmaaa
open Go.RowKit
set_option linter.unusedVariables false

theorem DelI.step {n at_ m E : Nat} {l : List Cl} (h : DelI n at_ m E l) (hu : (atC l ((at_ + m) % n)).used = true) :
    DelI n at_ (m + 1) E (reputC l ((at_ + m) % n)) ∧ usedN (reputC l ((at_ + m) % n)) = usedN l ∧ ∀ k x, HasC (reputC l ((at_ + m) % n)) k x ↔ HasC l k x := by
  have hn : 0 < n := by have := h.a; omega
  have hlen := h.len
  have ha := h.a
  have hmE : m < E := by
    rcases Nat.lt_or_ge m E with k | k
    · exact k
    · have : m = E := by have := h.e0; omega
      rw [this, h.emp] at hu; cases hu
  have hE := h.e1
  have hmi := dist_of ha (show m < n by omega)
  have hi : (at_ + m) % n < n := Nat.mod_lt _ hn
  generalize hI : (at_ + m) % n = i at *
  have A1 : ∀ j, atC (l.set i cl0) j = if i = j then cl0 else atC l j := atC_set (by rw [hlen]; exact hi) _
  have len1 : (l.set i cl0).length = n := by rw [List.length_set]; exact hlen
  have u1 := used_set (show i < l.length by rw [hlen]; exact hi) cl0
  unfold reputC
  generalize hL1 : l.set i cl0 = l1 at *
  obtain ⟨c, hc⟩ : ∃ c, atC l i = c := ⟨_, rfl⟩
  rw [hc] at hu ⊢
  have hh := homeC_lt c.key hn
  have hdl := dist_lt n (homeC c.key n) i hn
  have hda := dist_at hh hi
  have st : stopC l1 c.key i = true := by unfold stopC; rw [A1, if_pos rfl]; rfl
  have hfar : farC l1 c.key ≤ distC n (homeC c.key n) i := far_le (by rw [len1]; exact hdl) (by rw [len1, hda]; exact st)
  have hj0 : farC l1 c.key < l1.length := by rw [len1]; omega
  have hstop := far_stop hj0
  have hgo : ∀ j, j < farC l1 c.key → (atC l1 ((homeC c.key n + j) % n)).used = true := fun j hj => by
    have := (stop_of (far_go hj)).1
    rwa [len1] at this
  have hpe : seekP l1 c.key = (homeC c.key n + farC l1 c.key) % n := by unfold seekP; rw [len1]
  have hp : seekP l1 c.key < n := by rw [hpe]; exact Nat.mod_lt _ hn
  have hdp : distC n (homeC c.key n) (seekP l1 c.key) = farC l1 c.key := by rw [hpe]; exact dist_of hh (by omega)
  have pz : seekP l1 c.key = i ∨ (seekP l1 c.key ≠ i ∧ (atC l (seekP l1 c.key)).used = false) := by
    by_cases hpi : seekP l1 c.key = i
    · exact .inl hpi
    · refine .inr ⟨hpi, ?_⟩
      have e1 : atC l1 (seekP l1 c.key) = atC l (seekP l1 c.key) := by rw [A1, if_neg (fun e => hpi e.symm)]
      unfold stopC at hstop
      rw [e1] at hstop
      cases hq : (atC l (seekP l1 c.key)).used
      · rfl
      · rw [hq] at hstop
        have hk : (atC l (seekP l1 c.key)).key = c.key := (sameTp_iff _ _).1 (by simpa using hstop)
        exact absurd (h.once _ _ hp hi hq (by rw [hc]; exact hu) (by rw [hc]; exact hk)) hpi
  have pm : distC n at_ (seekP l1 c.key) ≤ m := by
    rcases pz with e | ⟨e, eu⟩
    · rw [e, hmi]; exact Nat.le_refl _
    · have hlt : farC l1 c.key < distC n (homeC c.key n) i := by
        rcases Nat.lt_or_ge (farC l1 c.key) (distC n (homeC c.key n) i) with k | k
        · exact k
        · have : farC l1 c.key = distC n (homeC c.key n) i := by omega
          rw [hpe, this, hda] at e; exact absurd rfl e
      have := h.path i hi (by rw [hc]; exact hu) (farC l1 c.key) (by rw [hc]; exact hlt)
      rw [hc, ← hpe, eu] at this
      rcases this with k | k
      · cases k
      · omega
  have pu : (atC l1 (seekP l1 c.key)).used = false := by
    rcases pz with e | ⟨e, eu⟩
    · rw [e, A1, if_pos rfl]
    · rw [A1, if_neg (fun k => e k.symm)]; exact eu
  have A2 : ∀ j, atC (l1.set (seekP l1 c.key) c) j = if seekP l1 c.key = j then c else atC l1 j := atC_set (by rw [len1]; exact hp) _
  have len2 : (l1.set (seekP l1 c.key) c).length = n := by rw [List.length_set]; exact len1
  have u2 := used_set (show seekP l1 c.key < l1.length by rw [len1]; exact hp) c
  generalize hL2 : l1.set (seekP l1 c.key) c = l2 at *
  generalize hP : seekP l1 c.key = p at *
  -- cells of the new table
  have B : ∀ j, atC l2 j = if p = j then c else if i = j then cl0 else atC l j := fun j => by rw [A2, A1]
  have up1 : ∀ j, (atC l1 j).used = true → (atC l2 j).used = true := fun j hj => by
    rw [A2]; split
    · exact hu
    · exact hj
  have up : ∀ j, j ≠ i → (atC l j).used = true → (atC l2 j).used = true := fun j hj hj2 => up1 j (by rw [A1, if_neg (fun e => hj e.symm)]; exact hj2)
  have old : ∀ j, p ≠ j → (atC l2 j).used = true → i ≠ j ∧ atC l2 j = atC l j := fun j hj hj2 => by
    rw [B, if_neg hj] at hj2 ⊢
    by_cases hij : i = j
    · rw [if_pos hij] at hj2; cases hj2
    · exact ⟨hij, if_neg hij⟩
  have run : ∀ q, i ≠ q → q < n → RunC l n at_ m q → RunC l2 n at_ (m + 1) q := fun q hiq hq ⟨r1, r2⟩ => by
    have hne : distC n at_ q ≠ m := fun e => by
      have := dist_at ha hq
      rw [e, hI] at this
      exact hiq this
    refine ⟨by omega, fun o o1 o2 => up _ (fun e => ?_) (r2 o (by omega) o2)⟩
    have h1 := dist_of ha (show o < n by have := dist_lt n at_ q hn; omega)
    rw [e, hmi] at h1
    omega
  refine ⟨⟨len2, ha, by omega, by omega, hE, ?_, fun q hq hq2 j hj => ?_, fun q r hq hr hq2 hr2 e => ?_, fun q hq hq2 => ?_, fun q hq hq2 => ?_⟩, ?_, fun k x => ?_⟩
  · have h1 := dist_of ha hE
    have n1 : p ≠ (at_ + E) % n := fun e => by rw [← e] at h1; omega
    have n2 : i ≠ (at_ + E) % n := fun e => by rw [← e, hmi] at h1; omega
    rw [B, if_neg n1, if_neg n2]
    exact h.emp
  · by_cases hpq : p = q
    · have eq : atC l2 q = c := by rw [B, if_pos hpq]
      rw [eq] at hj ⊢
      rw [← hpq, hdp] at hj
      exact .inl (up1 _ (hgo j hj))
    · obtain ⟨hiq, eq⟩ := old q hpq hq2
      rw [eq] at hq2 hj ⊢
      rcases h.path q hq hq2 j hj with k | ⟨k1, k2⟩
      · by_cases hri : (homeC (atC l q).key n + j) % n = i
        · by_cases hpi : p = i
          · left
            rw [B, if_pos (hpi.trans hri.symm)]
            exact hu
          · right
            refine ⟨by rw [hri, hmi]; omega, ?_⟩
            by_cases hR : RunC l n at_ m q
            · exact run q hiq hq hR
            · exfalso
              have hall : ∀ j', j' < distC n (homeC (atC l q).key n) q → (atC l ((homeC (atC l q).key n + j') % n)).used = true := fun j' hj' => by
                rcases h.path q hq hq2 j' hj' with k | k
                · exact k
                · exact absurd k.2 hR
              have hhq := homeC_lt (atC l q).key hn
              have hdq := dist_at hhq hq
              have hdq2 := dist_lt n (homeC (atC l q).key n) q hn
              generalize homeC (atC l q).key n = H at *
              generalize distC n H q = D at *
              have hw : ∀ o, o ≤ D - j → (atC l ((at_ + (m + o)) % n)).used = true := fun o ho => by
                have e3 : (at_ + (m + o)) % n = (H + (j + o)) % n := by rw [← add_mod3, hI, ← hri, add_mod3]
                rw [e3]
                by_cases hlt : j + o < D
                · exact hall _ hlt
                · rw [show j + o = D by omega, hdq]; exact hq2
              by_cases hmt : m + (D - j) < n
              · have e4 : (at_ + (m + (D - j))) % n = q := by
                  rw [← add_mod3, hI, ← hri, add_mod3, show j + (D - j) = D by omega]; exact hdq
                have e5 := dist_of ha hmt
                rw [e4] at e5
                refine hR ⟨by omega, fun o o1 o2 => ?_⟩
                have := hw (o - m) (by omega)
                rwa [show m + (o - m) = o by omega] at this
              · have := hw (E - m) (by omega)
                rw [show m + (E - m) = E by omega, h.emp] at this
                cases this
        · exact .inl (up _ hri k)
      · exact .inr ⟨by omega, run q hiq hq k2⟩
  · by_cases hpq : p = q
    · by_cases hpr : p = r
      · exact hpq.symm.trans hpr
      · obtain ⟨hir, er⟩ := old r hpr hr2
        have eq : atC l2 q = c := by rw [B, if_pos hpq]
        rw [eq, er] at e
        rw [er] at hr2
        exact absurd (h.once i r hi hr (by rw [hc]; exact hu) hr2 (by rw [hc]; exact e)) hir
    · obtain ⟨hiq, eq⟩ := old q hpq hq2
      by_cases hpr : p = r
      · have er : atC l2 r = c := by rw [B, if_pos hpr]
        rw [eq, er] at e
        rw [eq] at hq2
        exact absurd (h.once i q hi hq (by rw [hc]; exact hu) hq2 (by rw [hc]; exact e.symm)) hiq
      · obtain ⟨hir, er⟩ := old r hpr hr2
        rw [eq, er] at e
        rw [eq] at hq2
        rw [er] at hr2
        exact h.once q r hq hr hq2 hr2 e
  · by_cases hpq : p = q
    · have eq : atC l2 q = c := by rw [B, if_pos hpq]
      rw [eq, ← hc]
      exact h.keys i hi (by rw [hc]; exact hu)
    · obtain ⟨hiq, eq⟩ := old q hpq hq2
      rw [eq] at hq2 ⊢
      exact h.keys q hq hq2
  · by_cases hpq : p = q
    · rw [B, if_pos hpq, hu] at hq2; cases hq2
    · rw [B, if_neg hpq] at hq2 ⊢
      by_cases hiq : i = q
      · rw [if_pos hiq]
      · rw [if_neg hiq] at hq2 ⊢
        exact h.zero q hq hq2
  · rw [hc, hu] at u1
    rw [pu, hu] at u2
    simp at u1 u2
    omega
  · constructor
    · rintro ⟨q, hq, e⟩
      rw [len2] at hq
      by_cases hpq : p = q
      · rw [B, if_pos hpq] at e
        exact ⟨i, by rw [hlen]; exact hi, by rw [hc]; exact e⟩
      · obtain ⟨hiq, eq⟩ := old q hpq (by rw [e])
        exact ⟨q, by rw [hlen]; exact hq, by rw [← eq]; exact e⟩
    · rintro ⟨q, hq, e⟩
      rw [hlen] at hq
      by_cases hiq : i = q
      · rw [← hiq, hc] at e
        exact ⟨p, by rw [len2]; exact hp, by rw [B, if_pos rfl]; exact e⟩
      · by_cases hpq : p = q
        · exfalso
          rcases pz with e' | ⟨_, eu⟩
          · exact hiq (e'.symm.trans hpq)
          · rw [hpq, e] at eu; cases eu
        · exact ⟨q, by rw [len2]; exact hq, by rw [B, if_neg hpq, if_neg hiq]; exact e⟩
end Go.Proofs.Ytgapcfplicgmaaa

/- Tables of keys without a list: the document's answers; a key is taken out; put and taken out at once: plain mathematics. -/
namespace Go.Proofs.Ytgapcfplicgmaaa
open Go.RowKit
set_option linter.unusedVariables false

theorem DelI.run {n at_ E : Nat} : ∀ (f m : Nat) (l : List Cl), DelI n at_ m E l → E - m < f →
    ∃ l' m', delF f l ((at_ + m) % n) = l' ∧ DelI n at_ m' E l' ∧ GoodC l' ∧ usedN l' = usedN l ∧ ∀ k x, HasC l' k x ↔ HasC l k x
  | 0, m, l, h, hf => by omega
  | f + 1, m, l, h, hf => by
    unfold delF
    cases hu : (atC l ((at_ + m) % n)).used
    · rw [if_neg (by simp)]
      exact ⟨l, m, rfl, h, h.end hu, rfl, fun _ _ => Iff.rfl⟩
    · rw [if_pos rfl]
      obtain ⟨h1, h2, h3⟩ := h.step hu
      have hmE : m < E := by
        rcases Nat.lt_or_ge m E with k | k
        · exact k
        · have : m = E := by have := h.e0; omega
          rw [this, h.emp] at hu; cases hu
      obtain ⟨l', m', e1, e2, e3, e4, e5⟩ := DelI.run f (m + 1) _ h1 (by omega)
      rw [h.len, add_mod3]
      exact ⟨l', m', e1, e2, e3, e4.trans h2, fun k x => (e5 k x).trans (h3 k x)⟩
/-- a key is taken out of a right table. -/
theorem RightC.take {l : List Cl} (r : RightC l) {at_ : Nat} (ha : at_ < l.length) (hu : (atC l at_).used = true) :
    RightC (takeC l at_) ∧ (takeC l at_).length = l.length ∧ usedN (takeC l at_) + 1 = usedN l ∧ ∀ k x, HasC (takeC l at_) k x ↔ (HasC l k x ∧ k ≠ (atC l at_).key) := by
  obtain ⟨E, h⟩ := r.hole ha hu
  have hE := h.e1
  obtain ⟨l', m', e1, e2, e3, e4, e5⟩ := DelI.run l.length 1 _ h (by omega)
  have ht : takeC l at_ = l' := e1
  rw [ht]
  have hlen := e2.len
  have u1 := used_set ha cl0
  rw [hu] at u1
  simp at u1
  have hroom := r.room
  refine ⟨RightC.of (by rw [hlen]; exact r.size) (by rw [hlen]; omega) e3 (fun i hi => by rw [hlen] at hi; exact e2.keys i hi) (fun i hi => by rw [hlen] at hi; exact e2.zero i hi), hlen, by omega, fun k x => (e5 k x).trans ?_⟩
  have hA : ∀ j, atC (l.set at_ cl0) j = if at_ = j then cl0 else atC l j := atC_set ha _
  constructor
  · rintro ⟨q, hq, e⟩
    rw [List.length_set] at hq
    by_cases hqa : at_ = q
    · rw [hA, if_pos hqa] at e; cases e
    · rw [hA, if_neg hqa] at e
      refine ⟨⟨q, hq, e⟩, fun hk => hqa ?_⟩
      exact r.good.once _ _ ha hq hu (by rw [e]) (by rw [e]; exact hk.symm)
  · rintro ⟨⟨q, hq, e⟩, hk⟩
    have hqa : at_ ≠ q := fun h => hk (by rw [h, e])
    exact ⟨q, by rw [List.length_set]; exact hq, by rw [hA, if_neg hqa]; exact e⟩
/-- in a right table what is put anew stays. -/
theorem RightC.reput {l : List Cl} (r : RightC l) {i : Nat} (hi : i < l.length) (hu : (atC l i).used = true) : reputC l i = l := by
  have g := r.good
  have A1 : ∀ j, atC (l.set i cl0) j = if i = j then cl0 else atC l j := atC_set hi _
  have len1 : (l.set i cl0).length = l.length := List.length_set
  have hh := homeC_lt (atC l i).key (show 0 < l.length by omega)
  have hd := dist_lt l.length (homeC (atC l i).key l.length) i (by omega)
  have he := dist_at hh hi
  have hf : farC (l.set i cl0) (atC l i).key = distC l.length (homeC (atC l i).key l.length) i := by
    refine far_is (by rw [len1]; exact hd) ?_ fun j hj => ?_
    · rw [len1, he]
      unfold stopC
      rw [A1, if_pos rfl]; rfl
    · rw [len1]
      have hu2 := g.path i hi hu j hj
      have hp : (homeC (atC l i).key l.length + j) % l.length < l.length := Nat.mod_lt _ (by omega)
      have hne : i ≠ (homeC (atC l i).key l.length + j) % l.length := fun e => by
        have h3 := dist_of hh (show j < l.length by omega)
        rw [← e] at h3
        omega
      refine stop_no (by rw [A1, if_neg hne]; exact hu2) fun e => ?_
      rw [A1, if_neg hne] at e
      exact hne (g.once _ _ hp hi hu2 hu e).symm
  have hs : seekP (l.set i cl0) (atC l i).key = i := by unfold seekP; rw [hf, len1, he]
  unfold reputC
  rw [hs, List.set_set, atC_get hi, List.set_getElem_self]
theorem RightC.delF {l : List Cl} (r : RightC l) : ∀ (f i : Nat), i < l.length → delF f l i = l
  | 0, i, _ => rfl
  | f + 1, i, hi => by
    unfold Go.Proofs.Ytgapcfplicgmaaa.delF
    split
    · rename_i hu
      rw [r.reput hi hu]
      exact RightC.delF r f _ (Nat.mod_lt _ (by omega))
    · rfl
/-- put and taken out at once. -/
theorem RightC.back {l : List Cl} (r : RightC l) {k : Tp} (n : Int) (hu : (atC l (seekP l k)).used = false) : takeC (l.set (seekP l k) ⟨true, k, n⟩) (seekP l k) = l := by
  obtain ⟨hs, _, _⟩ := r.seek k
  unfold takeC
  have h0 := (r.cell _ hs).2 hu
  rw [List.set_set, List.length_set]
  have e : l.set (seekP l k) cl0 = l := by
    rw [← h0, atC_get hs, List.set_getElem_self]
  rw [e]
  exact r.delF _ _ (Nat.mod_lt _ (by omega))
/-- the document's answers. -/
def sameCl (a b : Cl) : Bool := a.used == b.used && (sameTp a.key b.key && a.num == b.num)
theorem sameCl_iff (a b : Cl) : sameCl a b = true ↔ a = b := by
  cases a; cases b
  simp [sameCl, sameTp_iff]
def cellOk (l : List Cl) (i : Nat) : Bool := if (atC l i).used then (seekP l (atC l i).key == i && rightT (atC l i).key) else sameCl (atC l i) cl0
def rightCB (l : List Cl) : Bool := sizeC l.length && (decide (usedN l < l.length) && (List.range l.length).all (cellOk l))
theorem rightCB_iff (l : List Cl) : rightCB l = true ↔ RightC l := by
  unfold rightCB
  rw [Bool.and_eq_true, Bool.and_eq_true, decide_eq_true_eq, List.all_eq_true]
  constructor
  · rintro ⟨h1, h2, h3⟩
    refine ⟨h1, h2, fun i hi => ?_⟩
    have := h3 i (List.mem_range.2 hi)
    unfold cellOk at this
    refine ⟨fun hu => ?_, fun hu => ?_⟩
    · rw [if_pos hu, Bool.and_eq_true, beq_iff_eq] at this
      exact ⟨far_lt _ h2, this.1, this.2⟩
    · rw [if_neg (by rw [hu]; simp)] at this
      exact (sameCl_iff _ _).1 this
  · rintro ⟨h1, h2, h3⟩
    refine ⟨h1, h2, fun i hi => ?_⟩
    have hi := List.mem_range.1 hi
    unfold cellOk
    cases hu : (atC l i).used
    · rw [if_neg (by simp)]
      exact (sameCl_iff _ _).2 ((h3 i hi).2 hu)
    · rw [if_pos rfl, Bool.and_eq_true, beq_iff_eq]
      exact ((h3 i hi).1 hu).2
def getC (l : List Cl) (k : Tp) : Int × Bool := if rightCB l then ((atC l (seekP l k)).num, (atC l (seekP l k)).used) else (0, false)
def putC (l : List Cl) (k : Tp) (n : Int) : List Cl × Int :=
  if (rightCB l && rightT k) = false then (l, 1)
  else if (atC l (seekP l k)).used then (l, 10)
  else if l.length ≤ usedN l + 1 then (l, 8)
  else (l.set (seekP l k) ⟨true, k, n⟩, 0)
def delC (l : List Cl) (k : Tp) : List Cl × Int :=
  if rightCB l = false then (l, 1)
  else if (atC l (seekP l k)).used = false then (l, 9)
  else (takeC l (seekP l k), 0)
def newC (n : Int) : List Cl × Int := if 0 ≤ n ∧ sizeC n.toNat = true then (List.replicate n.toNat cl0, 0) else ([], 1)
theorem right_new {n : Nat} (h : sizeC n = true) : RightC (List.replicate n cl0) ∧ usedN (List.replicate n cl0) = 0 ∧ ∀ k x, ¬ HasC (List.replicate n cl0) k x := by
  have hp := sizeC_pos h
  have ha : ∀ i, atC (List.replicate n cl0) i = cl0 := fun i => by
    unfold atC
    rw [List.getD_eq_getElem?_getD, List.getElem?_replicate]
    split <;> rfl
  have hu : usedN (List.replicate n cl0) = 0 := by
    unfold usedN
    rw [List.countP_eq_zero]
    intro c hc
    rw [List.eq_of_mem_replicate hc]; decide
  refine ⟨⟨by rw [List.length_replicate]; exact h, by rw [hu, List.length_replicate]; omega, fun i _ => ⟨fun k => (by rw [ha] at k; cases k), fun _ => ha i⟩⟩, hu, fun k x ⟨q, _, e⟩ => by rw [ha] at e; cases e⟩
end Go.Proofs.Ytgapcfplicgmaaa

/- Structs of many cells, by value: a load, a store into the block that was made last, as laws of the walk (cell by cell the kernel runs out of memory at nineteen). No condition. -/
namespace Go.Proofs.Ytgapcfplicgmaaa
open Go.ChangeShapes Go.WideShapes Go.ChangeAt Go.RowKit
set_option linter.unusedVariables false

section
variable {P : Program}
theorem run_loadVar_at (w : World) (ad : Addr) (ty : TypeId) (cs : List Value) (d : TypeDesc) (hc : ∀ j v, cs[j]? = some v → w.cell? (ad.add j) = some v)
    (hu : P.underlying ty = some d) (hd : d.isRow = true) (hi : (P.info? ty).map (·.size) = some cs.length) :
    (loadVar ty ad).run P w = .ok (.agg cs.toArray) w := by
  have hl : (loadCells ad cs.length).run P w = .ok cs.toArray w := run_loadCells_list (P := P) w ad cs hc
  cases hq : P.info? ty with
  | none => simp [hq] at hi
  | some i =>
    have hs : i.size = cs.length := by simpa [hq] using hi
    have hagg : (isAgg ty).run P w = .ok true w := by
      unfold isAgg
      rw [Sem.run_bind, run_underlying hu w]
      cases d <;> simp_all
    simp [loadVar, Sem.run_bind, hagg, sizeOf, typeInfo, hq, hs, hl]
theorem wpList_load_at {ops : Array Oper} {rest : List Oper} {op : Oper} {a : Act} {w : World} {Q : Exit → Act → World → Prop} (hgd : Region.wanted op (yielded ops a.tmps) = true) (ty : TypeId) (x : Operand) (ho : op.op = .load ty x)
    (ad : Addr) (hx : a.eval x = .pointer (some ad)) (cs : List Value) (d : TypeDesc) (hc : ∀ j v, cs[j]? = some v → w.cell? (ad.add j) = some v)
    (hu : P.underlying ty = some d) (hd : d.isRow = true) (hi : (P.info? ty).map (·.size) = some cs.length)
    (h : wpList P ops Q rest (a.put op.dst (.agg cs.toArray)) w) : wpList P ops Q (op :: rest) a w :=
  BigFrame.wpList_want hgd fun _ hK => by
    unfold Oper.wp execOp
    simp only [ho, hx, Instr.loadAt, Instr.sureAddr, Sem.run_bind, Sem.run_pure, Result.andThen_ok, run_loadVar_at w ad ty cs d hc hu hd hi]
    exact hK _ _ h
theorem yieldsIf_load_at {ops : Array Oper} {S : World → Prop} {op : Oper} {a : Act} (hw : Region.wanted op (yielded ops a.tmps) = true) (ty : TypeId) (x : Operand) (ho : op.op = .load ty x)
    (ad : Addr) (hx : a.eval x = .pointer (some ad)) (cs : List Value) (d : TypeDesc) (hS : ∀ w, S w → ∀ j v, cs[j]? = some v → w.cell? (ad.add j) = some v)
    (hu : P.underlying ty = some d) (hd : d.isRow = true) (hi : (P.info? ty).map (·.size) = some cs.length) : YieldsIf P ops S op (.agg cs.toArray) a :=
  .inl ⟨hw, fun w hw' => by
    unfold execOp
    simp only [ho, hx, Instr.loadAt, Instr.sureAddr, Sem.run_bind, Sem.run_pure, Result.andThen_ok, run_loadVar_at w ad ty cs d (hS w hw') hu hd hi]⟩
theorem wpList_store_new {ops : Array Oper} {rest : List Oper} {op : Oper} {a : Act} {w : World} {Q : Exit → Act → World → Prop} (hgd : Region.wanted op (yielded ops a.tmps) = true) (ty : TypeId) (x y : Operand) (ho : op.op = .store ty x y)
    (c c' : Array Value) (hx : a.eval x = .pointer (some ⟨w.heap.size, 0, none⟩)) (hy : a.eval y = .agg c')
    (hi : (P.info? ty).map (·.size) = some c'.size) (hs : c.size = c'.size) (h1 : c'.all (·.oneCell') = true)
    (h : wpList P ops Q rest (a.put op.dst undef) (w.alloc (.cells c' ty))) : wpList P ops Q (op :: rest) a (w.alloc (.cells c ty)) :=
  BigFrame.wpList_want hgd fun _ hK => by
    unfold Oper.wp execOp
    simp only [ho, hx, hy, Instr.storeAt, Instr.sureAddr, Sem.run_bind, Sem.run_pure, Result.andThen_ok, run_storeVar_new (P := P) w ty c c' hi hs h1]
    exact hK _ _ h
end
/-- a block of a struct's own, known whole. -/
def Bxo (w : World) (g : Nat) (ty : TypeId) (cs : List Value) : Prop := w.heap[g]? = some (.cells cs.toArray ty (0, 0))
/-- one block has turned, and nothing else. -/
structure Only (g : Nat) (w w' : World) : Prop where
  os : w'.os = w.os
  tape : w'.tape = w.tape
  output : w'.output = w.output
  size : w'.heap.size = w.heap.size
  block : ∀ k, k ≠ g → w'.heap[k]? = w.heap[k]?
section
variable {w w' w'' : World} {g g' B : Nat} {ty : TypeId} {cs : List Value}
theorem Bxo.lt (h : Bxo w g ty cs) : g < w.heap.size := (Array.getElem?_eq_some_iff.1 h).1
theorem Bxo.made (w : World) (ty : TypeId) (cs : List Value) : Bxo (w.alloc (.cells cs.toArray ty)) w.heap.size ty cs := heap_alloc_new w _
theorem Bxo.keep (h : Bxo w g ty cs) (hb : Below B w w') (hg : g < B) : Bxo w' g ty cs := (hb.block g hg).trans h
theorem Bxo.cell (h : Bxo w g ty cs) (j : Nat) {v : Value} (hj : cs[j]? = some v) : w.cell? ⟨g, j, none⟩ = some v := by
  rw [cell_of_row w g j _ ty _ h]; simpa using hj
theorem Bxo.at (h : Bxo w g ty cs) : ∀ j v, cs[j]? = some v → w.cell? ((⟨g, 0, none⟩ : Addr).add j) = some v := fun j v hj => by
  rw [Addr.add_mid, Nat.zero_add]; exact h.cell j hj
theorem Bxo.frozen (h : Bxo w g ty cs) (j : Nat) : w.frozen? ⟨g, j, none⟩ = false := frozen_of_row w g j _ ty h
theorem Bxo.drew (h : Bxo w g ty cs) : Bxo w.drew g ty cs := h
theorem Bxo.alloc (h : Bxo w g ty cs) (o : Obj) : Bxo (w.alloc o) g ty cs := (Below.heap_alloc w o g h.lt).trans h
theorem Bxo.set (h : Bxo w g ty cs) (j : Nat) (v : Value) : Bxo (w.setCell ⟨g, j, none⟩ v) g ty (cs.set j v) := by
  have := heap_setCell_same w g j cs.toArray ty v h
  rw [List.setIfInBounds_toArray] at this
  exact this
theorem Bxo.other (h : Bxo w g ty cs) {a : Addr} (ha : g ≠ a.block) (v : Value) : Bxo (w.setCell a v) g ty cs := (heap_setCell_other w a g v ha).trans h
theorem Bxo.only (h : Bxo w g ty cs) (ho : Only g' w w') (hg : g ≠ g') : Bxo w' g ty cs := (ho.block g hg).trans h
theorem Only.refl : Only g w w := ⟨rfl, rfl, rfl, rfl, fun _ _ => rfl⟩
theorem Only.trans (h : Only g w w') (h' : Only g w' w'') : Only g w w'' := ⟨h'.os.trans h.os, h'.tape.trans h.tape, h'.output.trans h.output, h'.size.trans h.size, fun k hk => (h'.block k hk).trans (h.block k hk)⟩
theorem Only.below (h : Only g w w') (hB : B ≤ g) : Below B w w' := ⟨h.os, h.tape, h.output, Nat.le_of_eq h.size.symm, fun k hk => h.block k (by omega)⟩
theorem Only.drew (h : Only g w w') : Only g w w'.drew := ⟨h.os, h.tape, h.output, h.size, h.block⟩
theorem Only.set (h : Only g w w') (j : Nat) (v : Value) : Only g w (w'.setCell ⟨g, j, none⟩ v) := ⟨h.os, h.tape, h.output, by rw [← h.size]; simp, fun k hk => (heap_setCell_other w' ⟨g, j, none⟩ k v hk).trans (h.block k hk)⟩
end
/-- cells from a place on, replaced. -/
def spl : List Value → Nat → List Value → List Value
  | cs, _, [] => cs
  | cs, o, v :: r => spl (cs.set o v) (o + 1) r
theorem spl_length : ∀ (vs : List Value) (cs : List Value) (o : Nat), (spl cs o vs).length = cs.length
  | [], _, _ => rfl
  | v :: r, cs, o => by rw [spl, spl_length r]; simp
theorem Bxo.setCells {g : Nat} {ty : TypeId} : ∀ (vs : List Value) (o : Nat) (cs : List Value) (w : World), Bxo w g ty cs → Bxo (w.setCells g o vs) g ty (spl cs o vs) ∧ Only g w (w.setCells g o vs)
  | [], _, _, _, h => ⟨h, Only.refl⟩
  | v :: r, o, cs, w, h => by
    have := Bxo.setCells r (o + 1) (cs.set o v) _ (h.set o v)
    exact ⟨this.1, (Only.refl.set o v).trans this.2⟩
section
variable {P : Program}
/-- the walk's load of a whole block; its store; a store of several cells in the middle. -/
theorem wpList_load_box {ops : Array Oper} {rest : List Oper} {op : Oper} {a : Act} {w : World} {Q : Exit → Act → World → Prop} (hgd : Region.wanted op (yielded ops a.tmps) = true) (ty : TypeId) (x : Operand) (ho : op.op = .load ty x)
    (g : Nat) (hx : a.eval x = .pointer (some ⟨g, 0, none⟩)) (cs : List Value) (d : TypeDesc) (hc : Bxo w g ty cs)
    (hu : P.underlying ty = some d) (hd : d.isRow = true) (hi : (P.info? ty).map (·.size) = some cs.length)
    (h : wpList P ops Q rest (a.put op.dst (.agg cs.toArray)) w) : wpList P ops Q (op :: rest) a w :=
  wpList_load_at hgd ty x ho _ hx cs d hc.at hu hd hi h
theorem run_storeVar_box (w : World) (g o : Nat) (ty sty : TypeId) (cs vs : List Value) (hc : Bxo w g ty cs) (hi : (P.info? sty).map (·.size) = some vs.length) (ho : o + vs.length ≤ cs.length) (h1 : vs.toArray.all (·.oneCell') = true) :
    (storeVar sty ⟨g, o, none⟩ (.agg vs.toArray)).run P w = .ok () (w.setCells g o vs) :=
  run_storeVar_mid w g o sty vs.toArray (fun j hj => ⟨by rw [hc.cell (o + j) (List.getElem?_eq_getElem (Nat.lt_of_lt_of_le (Nat.add_lt_add_left (show j < vs.length from by simpa using hj) o) ho))]; rfl, hc.frozen _⟩) (by simpa using hi) h1
theorem wpList_store_box {ops : Array Oper} {rest : List Oper} {op : Oper} {a : Act} {w : World} {Q : Exit → Act → World → Prop} (hgd : Region.wanted op (yielded ops a.tmps) = true) (sty : TypeId) (x y : Operand) (ho : op.op = .store sty x y)
    (g o : Nat) (ty : TypeId) (cs vs : List Value) (hx : a.eval x = .pointer (some ⟨g, o, none⟩)) (hy : a.eval y = .agg vs.toArray) (hc : Bxo w g ty cs)
    (hi : (P.info? sty).map (·.size) = some vs.length) (hs : o + vs.length ≤ cs.length) (h1 : vs.toArray.all (·.oneCell') = true)
    (h : ∀ w', Bxo w' g ty (spl cs o vs) → Only g w w' → wpList P ops Q rest (a.put op.dst undef) w') : wpList P ops Q (op :: rest) a w :=
  BigFrame.wpList_want hgd fun _ hK => by
    unfold Oper.wp execOp
    simp only [ho, hx, hy, Instr.storeAt, Instr.sureAddr, Sem.run_bind, Sem.run_pure, Result.andThen_ok, run_storeVar_box w g o ty sty cs vs hc hi hs h1]
    obtain ⟨h2, h3⟩ := Bxo.setCells vs o cs w hc
    exact hK _ _ (h _ h2 h3)
/-- .. of a region that draws: one step of it. -/
theorem step_store_box {op : Oper} {a : Act} {w : World} {K : Act → World → Prop} {Q : Exit → Act → World → Prop} (sty : TypeId) (x y : Operand) (ho : op.op = .store sty x y)
    (g o : Nat) (ty : TypeId) (cs vs : List Value) (hx : a.eval x = .pointer (some ⟨g, o, none⟩)) (hy : a.eval y = .agg vs.toArray) (hc : Bxo w g ty cs)
    (hi : (P.info? sty).map (·.size) = some vs.length) (hs : o + vs.length ≤ cs.length) (h1 : vs.toArray.all (·.oneCell') = true)
    (h : ∀ w', Bxo w' g ty (spl cs o vs) → Only g w w' → K (a.put op.dst undef) w') : op.wp P a w K Q := by
  unfold Oper.wp execOp
  simp only [ho, hx, hy, Instr.storeAt, Instr.sureAddr, Sem.run_bind, Sem.run_pure, Result.andThen_ok, run_storeVar_box w g o ty sty cs vs hc hi hs h1]
  obtain ⟨h2, h3⟩ := Bxo.setCells vs o cs w hc
  exact h _ h2 h3
end
theorem below_alloc {w0 w : World} {B : Nat} (h : Below B w0 w) (hB : B ≤ w.heap.size) (o : Obj) : Below B w0 (w.alloc o) := h.trans ((Below.refl _ _).alloc hB _)
end Go.Proofs.Ytgapcfplicgmaaa

/- Structs of many cells: stores of whatever value, as steps; loads out of the middle. No condition. -/
namespace Go.Proofs.Ytgapcfplicgmaaa
open Go.ChangeShapes Go.WideShapes Go.ChangeAt Go.RowKit
set_option linter.unusedVariables false

section
variable {P : Program}
theorem run_storeVar_any (w : World) (g o : Nat) (ty sty : TypeId) (cs vs : List Value) (v : Value) (hv : v.cells = vs.toArray) (hc : Bxo w g ty cs) (hi : (P.info? sty).map (·.size) = some vs.length) (ho : o + vs.length ≤ cs.length) (h1 : ∀ u ∈ vs, u.oneCell' = true) :
    (storeVar sty ⟨g, o, none⟩ v).run P w = .ok () (w.setCells g o vs) := by
  have := run_storeCells_cells (P := P) g o vs 0 w (fun j hj => by simp only [Nat.add_zero]; rw [hc.cell (o + j) (List.getElem?_eq_getElem (Nat.lt_of_lt_of_le (Nat.add_lt_add_left hj o) ho))]; rfl) (fun j hj => hc.frozen _) h1
  cases hq : P.info? sty with
  | none => simp [hq] at hi
  | some i =>
    have hs : vs.length = i.size := by simp [hq] at hi; omega
    simp only [Nat.add_zero] at this
    simp [storeVar, sizeOf, typeInfo, hq, hv, hs, this]
theorem wpList_store_any {ops : Array Oper} {rest : List Oper} {op : Oper} {a : Act} {w : World} {Q : Exit → Act → World → Prop} (hgd : Region.wanted op (yielded ops a.tmps) = true) (sty : TypeId) (x y : Operand) (ho : op.op = .store sty x y)
    (g o : Nat) (ty : TypeId) (cs vs : List Value) (v : Value) (hx : a.eval x = .pointer (some ⟨g, o, none⟩)) (hy : a.eval y = v) (hv : v.cells = vs.toArray) (hc : Bxo w g ty cs)
    (hi : (P.info? sty).map (·.size) = some vs.length) (hs : o + vs.length ≤ cs.length) (h1 : ∀ u ∈ vs, u.oneCell' = true)
    (h : ∀ w', Bxo w' g ty (spl cs o vs) → Only g w w' → wpList P ops Q rest (a.put op.dst undef) w') : wpList P ops Q (op :: rest) a w :=
  BigFrame.wpList_want hgd fun _ hK => by
    unfold Oper.wp execOp
    simp only [ho, hx, hy, Instr.storeAt, Instr.sureAddr, Sem.run_bind, Sem.run_pure, Result.andThen_ok, run_storeVar_any w g o ty sty cs vs v hv hc hi hs h1]
    obtain ⟨h2, h3⟩ := Bxo.setCells vs o cs w hc
    exact hK _ _ (h _ h2 h3)
theorem step_store_any {op : Oper} {a : Act} {w : World} {K : Act → World → Prop} {Q : Exit → Act → World → Prop} (sty : TypeId) (x y : Operand) (ho : op.op = .store sty x y)
    (g o : Nat) (ty : TypeId) (cs vs : List Value) (v : Value) (hx : a.eval x = .pointer (some ⟨g, o, none⟩)) (hy : a.eval y = v) (hv : v.cells = vs.toArray) (hc : Bxo w g ty cs)
    (hi : (P.info? sty).map (·.size) = some vs.length) (hs : o + vs.length ≤ cs.length) (h1 : ∀ u ∈ vs, u.oneCell' = true)
    (h : ∀ w', Bxo w' g ty (spl cs o vs) → Only g w w' → K (a.put op.dst undef) w') : op.wp P a w K Q := by
  unfold Oper.wp execOp
  simp only [ho, hx, hy, Instr.storeAt, Instr.sureAddr, Sem.run_bind, Sem.run_pure, Result.andThen_ok, run_storeVar_any w g o ty sty cs vs v hv hc hi hs h1]
  obtain ⟨h2, h3⟩ := Bxo.setCells vs o cs w hc
  exact h _ h2 h3
theorem Bxo.mid {w : World} {g : Nat} {ty : TypeId} {cs : List Value} (h : Bxo w g ty cs) (o : Nat) (vs : List Value) (hs : ∀ j v, vs[j]? = some v → cs[o + j]? = some v) : ∀ j v, vs[j]? = some v → w.cell? ((⟨g, o, none⟩ : Addr).add j) = some v := fun j v hj => by
  rw [Addr.add_mid]; exact h.cell _ (hs j v hj)
theorem sub_get {cs vs : List Value} {o : Nat} (h : (cs.drop o).take vs.length = vs) : ∀ j v, vs[j]? = some v → cs[o + j]? = some v := fun j v hj => by
  rw [← List.getElem?_drop]
  have hl := (List.getElem?_eq_some_iff.1 hj).1
  rw [← h, List.getElem?_take, if_pos hl] at hj
  exact hj
theorem step_load_at {op : Oper} {a : Act} {w : World} {K : Act → World → Prop} {Q : Exit → Act → World → Prop} (ty : TypeId) (x : Operand) (ho : op.op = .load ty x)
    (ad : Addr) (hx : a.eval x = .pointer (some ad)) (cs : List Value) (d : TypeDesc) (hc : ∀ j v, cs[j]? = some v → w.cell? (ad.add j) = some v)
    (hu : P.underlying ty = some d) (hd : d.isRow = true) (hi : (P.info? ty).map (·.size) = some cs.length)
    (h : K (a.put op.dst (.agg cs.toArray)) w) : op.wp P a w K Q := by
  unfold Oper.wp execOp
  simp only [ho, hx, Instr.loadAt, Instr.sureAddr, Sem.run_bind, Sem.run_pure, Result.andThen_ok, run_loadVar_at w ad ty cs d hc hu hd hi]
  exact h
end
theorem zero_of {P : Program} {ty : TypeId} {z : Value} (h : (P.info? ty).map (·.zero) = some (some z)) (w : World) : (zeroValue ty).run P w = .ok z w := by
  obtain ⟨i, hi, hz⟩ := Option.map_eq_some_iff.1 h
  simp [zeroValue, typeInfo, hi, hz]
theorem step_alloc {P : Program} {op : Oper} {a : Act} {w : World} {K : Act → World → Prop} {Q : Exit → Act → World → Prop} (ty : TypeId) (ho : op.op = .alloc ty) (z : List Value) (hz : (P.info? ty).map (·.zero) = some (some (.agg z.toArray)))
    (h : ∀ g w', (g ≤ w.heap.size ∧ w.heap.size ≤ g) → Bxo w' g ty z → Below w.heap.size w w' → (w'.heap.size ≤ w.heap.size + 1 ∧ w.heap.size + 1 ≤ w'.heap.size) → K (a.put op.dst (.pointer (some ⟨g, 0, none⟩))) w') : op.wp P a w K Q := by
  have hr : (Instr.alloc ty true (.tuple #[])).run P w = .ok (.pointer (some ⟨w.heap.size, 0, none⟩)) (w.alloc (.cells z.toArray ty)) := by
    simp [Instr.alloc, zero_of hz, newVar, newRow, Value.cells]
  unfold Oper.wp execOp
  simp only [ho, Sem.run_bind, Sem.run_pure, Result.andThen_ok, hr]
  exact h _ _ ⟨Nat.le_refl _, Nat.le_refl _⟩ (Bxo.made w ty z) ((Below.refl _ _).alloc (Nat.le_refl _) _) (by simp)
end Go.Proofs.Ytgapcfplicgmaaa

/- Tuples as values: their cells; two that are compared. -/
namespace Go.Proofs.Ytgapcfplicgmaaa
open Go.ChangeShapes Go.WideShapes Go.ChangeAt Go.RowKit
set_option linter.unusedVariables false
set_option linter.unusedSimpArgs false

abbrev tpL (t : Tp) : List Value := [.int .i64 t.proto, .int .u32 t.src, .int .i64 t.sport, .int .u32 t.dst, .int .i64 t.dport]
abbrev tpV (t : Tp) : Value := .agg #[.int .i64 t.proto, .int .u32 t.src, .int .i64 t.sport, .int .u32 t.dst, .int .i64 t.dport]
abbrev oTp (t : Tp) : Obj := .cells #[.int .i64 t.proto, .int .u32 t.src, .int .i64 t.sport, .int .u32 t.dst, .int .i64 t.dport] 25
theorem info_tp : (Try.prog.info? 25).map (·.size) = some 5 := by kernel_rfl
theorem tp_one (t : Tp) : ∀ u ∈ tpL t, u.oneCell' = true := by simp [Value.oneCell']
theorem eqInTpD (d : Nat) (m n : Tp) (w : World) : (Op.equalIn (d + 1 + 1) 25 (tpV m) (tpV n)).run Try.prog w = .ok (sameTp m n) w := by
  have hS : Try.prog.underlying 25 = some (.struct (Try.prog.fieldsOf 25)) := by kernel_rfl
  have hp : Try.prog.stoodInHeld 25 = false := by kernel_rfl
  have u3 := Try.underlying3
  have u4 := Try.underlying23
  have a3 := Try.isAgg3
  have z3 := Try.sizeOf3
  have a4 := Try.isAgg23
  have z4 := Try.sizeOf23
  rw [run_equalIn_agg w (d + 1) 25 _ _ hS hp]
  simp only [Program.fieldsOf, Try.underlying25]
  obtain ⟨m1, m2, m3, m4, m5⟩ := m
  obtain ⟨n1, n2, n3, n4, n5⟩ := n
  unfold sameTp
  go_simp
  by_cases h1 : m1 = n1 <;> by_cases h2 : m2 = n2 <;> by_cases h3 : m3 = n3 <;> by_cases h4 : m4 = n4 <;> by_cases h5 : m5 = n5 <;> simp [h1, h2, h3, h4, h5]
theorem eqInTp (m n : Tp) (w : World) : (Op.equalIn 10000 25 (tpV m) (tpV n)).run Try.prog w = .ok (sameTp m n) w := eqInTpD 9998 m n w
theorem eqTp (m n : Tp) (w : World) : (binOp .eql 25 (tpV m) (tpV n)).run Try.prog w = .ok (.bool (sameTp m n)) w := by
  rw [run_eql_struct, eqInTp]; rfl
theorem neTp (m n : Tp) (w : World) : (binOp .neq 25 (tpV m) (tpV n)).run Try.prog w = .ok (.bool (!sameTp m n)) w := by
  rw [run_neq_struct, eqInTp]; rfl
end Go.Proofs.Ytgapcfplicgmaaa

/- Rows of elements of several cells: of a call's own, read, appended to. -/
namespace Go.Proofs.Ytgapcfplicgmaaa
open Go.ChangeShapes Go.WideShapes Go.ChangeAt Go.RowKit
set_option linter.unusedVariables false
set_option linter.unusedSimpArgs false

section
variable {α : Type} (L : α → List Value) (k : Nat) (hL : ∀ x, (L x).length = k)
include hL
theorem flat_len : ∀ es : List α, (es.flatMap L).length = es.length * k
  | [] => by simp
  | e :: t => by simp only [List.flatMap_cons, List.length_append, hL, flat_len t, List.length_cons]; rw [Nat.succ_mul, Nat.add_comm]
theorem flat_take : ∀ (es : List α) (j : Nat), (es.flatMap L).take (j * k) = (es.take j).flatMap L
  | [], j => by simp
  | e :: t, 0 => by simp
  | e :: t, j + 1 => by
    rw [List.flatMap_cons, List.take_succ_cons, List.flatMap_cons, List.take_append, hL, List.take_of_length_le (by rw [hL, Nat.succ_mul]; omega), ← flat_take t j]
    congr 2
    rw [Nat.succ_mul]; omega
theorem flat_drop : ∀ (es : List α) (j : Nat), (es.flatMap L).drop (j * k) = (es.drop j).flatMap L
  | [], j => by simp
  | e :: t, 0 => by simp
  | e :: t, j + 1 => by
    rw [List.flatMap_cons, List.drop_succ_cons, List.drop_append, hL, List.drop_eq_nil_of_le (by rw [hL, Nat.succ_mul]; omega), List.nil_append, ← flat_drop t j]
    congr 1
    rw [Nat.succ_mul]; omega
theorem flat_get (es : List α) (j i : Nat) (hj : j < es.length) (hi : i < k) : (es.flatMap L)[j * k + i]? = (L es[j])[i]? := by
  rw [← List.getElem?_drop, flat_drop L k hL, List.drop_eq_getElem_cons hj, List.flatMap_cons, List.getElem?_append_left (by rw [hL]; exact hi)]
end
/-- cells replaced from a place on. -/
theorem set_eq {α : Type} : ∀ (l : List α) (o : Nat) (v : α), o < l.length → l.set o v = l.take o ++ v :: l.drop (o + 1)
  | [], _, _, h => by simp at h
  | a :: t, 0, v, _ => by simp
  | a :: t, o + 1, v, h => by simp [set_eq t o v (by simpa using h)]
theorem spl_eq : ∀ (vs cs : List Value) (o : Nat), o + vs.length ≤ cs.length → spl cs o vs = cs.take o ++ vs ++ cs.drop (o + vs.length)
  | [], cs, o, _ => by simp [spl]
  | v :: r, cs, o, h => by
    simp only [List.length_cons] at h
    have ho : o < cs.length := by omega
    rw [spl, spl_eq r _ _ (by simp; omega), set_eq cs o v ho]
    have e1 : (cs.take o ++ v :: cs.drop (o + 1)).take (o + 1) = cs.take o ++ [v] := by
      rw [List.take_append, List.take_of_length_le (by rw [List.length_take]; omega), List.length_take, Nat.min_eq_left (by omega), show o + 1 - o = 1 by omega]
      rfl
    have e2 : (cs.take o ++ v :: cs.drop (o + 1)).drop (o + 1 + r.length) = cs.drop (o + (v :: r).length) := by
      rw [List.drop_append, List.length_take, Nat.min_eq_left (by omega), List.drop_eq_nil_of_le (by rw [List.length_take]; omega), List.nil_append]
      rw [show o + 1 + r.length - o = r.length + 1 by omega, List.drop_succ_cons, List.drop_drop]
      congr 1; simp; omega
    rw [e1, e2]; simp
theorem spl_take (vs cs : List Value) (o n : Nat) (h : o + vs.length ≤ n) (hn : n ≤ cs.length) : (spl cs o vs).take n = spl (cs.take n) o vs := by
  rw [spl_eq vs cs o (by omega), spl_eq vs (cs.take n) o (by rw [List.length_take]; omega)]
  rw [List.take_append, List.take_of_length_le (by rw [List.length_append, List.length_take]; omega), List.length_append, List.length_take, Nat.min_eq_left (by omega), List.take_take, Nat.min_eq_left (by omega), List.drop_take]
theorem spl_flat {α : Type} (L : α → List Value) (k : Nat) (hL : ∀ x, (L x).length = k) (es : List α) (j : Nat) (e : α) (hj : j < es.length) : spl (es.flatMap L) (j * k) (L e) = (es.set j e).flatMap L := by
  have hl := flat_len L k hL es
  have h1 : j * k + k ≤ es.length * k := by rw [← Nat.succ_mul]; exact Nat.mul_le_mul_right k hj
  rw [spl_eq _ _ _ (by rw [hL, hl]; exact h1), hL, set_eq es j e hj, List.flatMap_append, List.flatMap_cons, flat_take L k hL, ← Nat.succ_mul, flat_drop L k hL, List.append_assoc]
/-- a row of the call's own, opened; a store into it. -/
theorem own_open {w : World} {base : Nat} {e : TypeId} {size g n c : Nat} {xs : List Value} (h : w.ownsRow base e size (.slice (some ⟨g, 0, none⟩) n c) n xs) :
    ∃ cur, Bxo w g e cur ∧ cur.length = c * size ∧ cur.take (n * size) = xs ∧ base ≤ g ∧ n ≤ c ∧ c ≤ maxLen ∧ xs.length = n * size := by
  rcases h.2 with ⟨h', _⟩ | ⟨g', cap, cur, hv, hb, hh, hn, hm, hs, ht⟩
  · cases h'
  · injection hv with h1 h2 h3
    subst h3
    injection h1 with h1
    injection h1 with h1
    subst h1
    exact ⟨cur.toList, by unfold Bxo; simpa using hh, by simpa using hs, by simpa using ht, hb, hn, hm, h.1⟩
theorem own_shut {w : World} {base : Nat} {e : TypeId} {size g n c : Nat} {xs cur : List Value} (hb : Bxo w g e cur) (h1 : cur.length = c * size) (h2 : cur.take (n * size) = xs) (h3 : base ≤ g) (h4 : n ≤ c) (h5 : c ≤ maxLen) (h6 : xs.length = n * size) :
    w.ownsRow base e size (.slice (some ⟨g, 0, none⟩) n c) n xs :=
  ⟨h6, .inr ⟨g, c, cur.toArray, rfl, h3, hb, h4, h5, by simpa using h1, by simpa using h2⟩⟩
theorem own_keep {w w' : World} {base : Nat} {e : TypeId} {size g n c : Nat} {xs : List Value} (h : w.ownsRow base e size (.slice (some ⟨g, 0, none⟩) n c) n xs) (hh : w'.heap[g]? = w.heap[g]?) : w'.ownsRow base e size (.slice (some ⟨g, 0, none⟩) n c) n xs := by
  obtain ⟨cur, a1, a2, a3, a4, a5, a6, a7⟩ := own_open h
  exact own_shut (hh.trans a1) a2 a3 a4 a5 a6 a7
theorem own_spl {w w' : World} {base : Nat} {e : TypeId} {size g n c : Nat} {xs cur vs : List Value} {o : Nat} (h : w.ownsRow base e size (.slice (some ⟨g, 0, none⟩) n c) n xs) (hc : Bxo w g e cur) (ho : o + vs.length ≤ n * size) (hb : Bxo w' g e (spl cur o vs)) :
    w'.ownsRow base e size (.slice (some ⟨g, 0, none⟩) n c) n (spl xs o vs) := by
  obtain ⟨cur', a1, a2, a3, a4, a5, a6, a7⟩ := own_open h
  have e : cur' = cur := by
    have := a1.symm.trans hc
    simpa using this
  subst e
  have hle : n * size ≤ cur'.length := by rw [a2]; exact Nat.mul_le_mul_right size a5
  exact own_shut hb (by rw [spl_length]; exact a2) (by rw [spl_take vs cur' o _ ho hle, a3]) a4 a5 a6 (by rw [spl_length]; exact a7)
/-- the slice at A reads as these cells. -/
def RdC (w : World) (A : Option Addr) (cs : List Value) : Prop := cs = [] ∨ ∃ ad, A = some ad ∧ ∀ (j : Nat) (u : Value), cs[j]? = some u → w.cell? (ad.add j) = some u
theorem RdC.keep {w w' : World} {A : Option Addr} {cs : List Value} (h : RdC w A cs) (hb : Below w.heap.size w w') : RdC w' A cs := by
  rcases h with h | ⟨ad, e, hc⟩
  · exact .inl h
  · refine .inr ⟨ad, e, fun j u hj => ?_⟩
    have := hc j u hj
    rw [← this]
    exact hb.cell (World.block_lt_of_cell? w _ this)
theorem wpList_append_rdK {P : Program} {w : World} {ops : Array Oper} {rest : List Oper} {o : Oper} {a : Act} {Q : Exit → Act → World → Prop} (hgd : o.guard = none) (s x : Operand) (t : TypeId)
    (ho : o.op = .call { callee := .builtin .append, args := #[s, x], argTypes := #[t, t] })
    (base : Nat) (e : TypeId) (i : TypeInfo) (z : Value) (k bytes : Nat) (ht : P.underlying t = some (.slice e)) (hi : P.info? e = some i) (hz : i.zero = some z)
    (hsize : i.size = k) (hby : i.bytes = bytes) (hzs : z.cells.size = k) (hk : 0 < k)
    (v : Value) (n : Nat) (xs : List Value) (hs : a.eval s = v) (hown : w.ownsRow base e k v n xs)
    (A : Option Addr) (m c : Nat) (news : List Value) (hx : a.eval x = .slice A m c) (hm : news.length = m * k) (hc : A = none → c = 0 ∧ m = 0) (hr : RdC w A news) (h1 : ∀ u ∈ news, u.oneCell' = true)
    (h63 : n + m ≤ maxLen) (hbytes : (n + m) * bytes ≤ 140737488355328) (hbase : base ≤ w.heap.size)
    (h : ∀ v' w', w'.ownsRow base e k v' (n + m) (xs ++ news) → w.grownBy w' v.ownBlock → (v'.ownBlock = v.ownBlock ∨ v'.ownBlock = some w.heap.size) → wpList P ops Q rest (a.put o.dst v') w') :
    wpList P ops Q (o :: rest) a w := by
  rcases A with _ | ad
  · obtain ⟨rfl, rfl⟩ := hc rfl
    have hn : news = [] := List.eq_nil_of_length_eq_zero (by simpa using hm)
    subst hn
    exact wpList_append_own_none hgd s x t ho base e i k ht hi v n xs hs hown hx (h v w (by simpa using hown) (World.grownBy.refl w _) (.inl rfl))
  · refine wpList_append_own_at w hgd s x t ho base e i z k bytes ht hi hz hsize hby hzs hk v n xs hs hown ad m c news hx (by omega) ?_ h1 h63 hbytes hbase (fun v' w' g1 g2 _ g4 => h v' w' g1 g2 g4)
    intro j u hj
    rcases hr with h | ⟨ad', h', hcell⟩
    · subst h; simp at hj
    · cases h'; exact hcell j u hj
theorem wpList_copy_rdK {P : Program} {w : World} {ops : Array Oper} {rest : List Oper} {o : Oper} {a : Act} {Q : Exit → Act → World → Prop} (hgd : o.guard = none) (s x : Operand) (t : TypeId)
    (ho : o.op = .call { callee := .builtin .append, args := #[s, x], argTypes := #[t, t] })
    (e : TypeId) (i : TypeInfo) (z : Value) (k bytes : Nat) (ht : P.underlying t = some (.slice e)) (hi : P.info? e = some i) (hz : i.zero = some z)
    (hsize : i.size = k) (hby : i.bytes = bytes) (hzs : z.cells.size = k) (hk : 0 < k) (hs : a.eval s = .slice (some ⟨w.heap.size, 0, none⟩) 0 0)
    (A : Option Addr) (m c : Nat) (news : List Value) (hx : a.eval x = .slice A m c) (hm : news.length = m * k) (hc : A = none → c = 0 ∧ m = 0) (hr : RdC w A news) (h1 : ∀ u ∈ news, u.oneCell' = true)
    (h63 : m ≤ maxLen) (hbytes : m * bytes ≤ 140737488355328)
    (h : ∀ v' w', w'.ownsRow w.heap.size e k v' m news → Below w.heap.size w w' → wpList P ops Q rest (a.put o.dst v') w') :
    wpList P ops Q (o :: rest) a (w.alloc (.cells #[] e)) := by
  refine wpList_append_rdK hgd s x t ho w.heap.size e i z k bytes ht hi hz hsize hby hzs hk _ 0 [] hs (World.ownsRow_made w #[] 0 (Nat.le_refl _) (by unfold maxLen; omega) (by simp)) A m c news hx hm hc (hr.keep ((Below.refl _ _).alloc (Nat.le_refl _) _)) h1 (by simpa using h63) (by simpa using hbytes) (by simp) ?_
  intro v' w' hown hg hat
  rw [Nat.zero_add, List.nil_append] at hown
  exact h v' w' hown (((Below.refl _ _).alloc (Nat.le_refl _) _).grown hg (by simp) (fun k hk => by simp [Value.ownBlock] at hk; omega))
/-- a copy of a row. -/
def CopiedK (w0 : World) (e : TypeId) (k n : Nat) (cs : List Value) (x : Ending) (w : World) : Prop := ∃ A c, x = .returned (.slice A n c) ∧ w.ownsRow w0.heap.size e k (.slice A n c) n cs ∧ Below w0.heap.size w0 w
theorem own_slice {w : World} {base : Nat} {e : TypeId} {k : Nat} {v : Value} {n : Nat} {xs : List Value} (h : w.ownsRow base e k v n xs) : ∃ A c, v = .slice A n c := by
  rcases h.2 with ⟨rfl, rfl⟩ | ⟨g, cap, cur, rfl, _⟩
  · exact ⟨_, _, rfl⟩
  · exact ⟨_, _, rfl⟩
theorem own_none (w : World) (base : Nat) (e : TypeId) (k : Nat) : w.ownsRow base e k (.slice none 0 0) 0 [] := ⟨by simp, .inl ⟨rfl, rfl⟩⟩
/-- one block may have turned, others were added. -/
structure Gro (g : Nat) (w w' : World) : Prop where
  os : w'.os = w.os
  tape : w'.tape = w.tape
  output : w'.output = w.output
  size : w.heap.size ≤ w'.heap.size
  block : ∀ k, k < w.heap.size → k ≠ g → w'.heap[k]? = w.heap[k]?
section
variable {g B : Nat} {w w' w'' : World} {ty : TypeId} {cs : List Value}
theorem Gro.refl : Gro g w w := ⟨rfl, rfl, rfl, Nat.le_refl _, fun _ _ _ => rfl⟩
theorem Gro.trans (h : Gro g w w') (k : Gro g w' w'') : Gro g w w'' := ⟨k.os.trans h.os, k.tape.trans h.tape, k.output.trans h.output, Nat.le_trans h.size k.size, fun i hi hg => (k.block i (Nat.lt_of_lt_of_le hi h.size) hg).trans (h.block i hi hg)⟩
theorem Only.gro (h : Only g w w') : Gro g w w' := ⟨h.os, h.tape, h.output, Nat.le_of_eq h.size.symm, fun k _ hk => h.block k hk⟩
theorem gro_below (h : Below w.heap.size w w') : Gro g w w' := ⟨h.os, h.tape, h.output, h.size, fun k hk _ => h.block k hk⟩
theorem gro_grown (h : w.grownBy w' (some g)) : Gro g w w' := ⟨h.os, h.tape, h.output, h.size, fun k hk hg => h.block k hk (fun e => hg (by injection e))⟩
theorem Gro.below (h : Gro g w w') (hB : B ≤ g) (hs : B ≤ w.heap.size) : Below B w w' := ⟨h.os, h.tape, h.output, h.size, fun k hk => h.block k (by omega) (by omega)⟩
theorem Bxo.gro {g' : Nat} (h : Bxo w g' ty cs) (hg : Gro g w w') (hne : g' ≠ g) : Bxo w' g' ty cs := (hg.block g' h.lt hne).trans h
end
def blk (A : Option Addr) : Option Nat := A.map Addr.block
theorem own_none_any {w w' : World} {base base' : Nat} {e : TypeId} {size n c : Nat} {xs : List Value} (h : w.ownsRow base e size (.slice none n c) n xs) : w'.ownsRow base' e size (.slice none n c) n xs := by
  refine ⟨h.1, ?_⟩
  rcases h.2 with h | ⟨g, cap, cur, hv, _⟩
  · exact .inl h
  · cases hv
theorem own_addr {w : World} {base : Nat} {e : TypeId} {size n c : Nat} {A : Option Addr} {xs : List Value} (h : w.ownsRow base e size (.slice A n c) n xs) : (A = none ∧ n = 0 ∧ c = 0) ∨ ∃ g, A = some ⟨g, 0, none⟩ ∧ base ≤ g ∧ g < w.heap.size := by
  rcases h.2 with ⟨h, h'⟩ | ⟨g, cap, cur, hv, hb, hh, _⟩
  · injection h with a b c
    exact .inl ⟨a, h', c⟩
  · injection hv with a b c
    exact .inr ⟨g, a, hb, (Array.getElem?_eq_some_iff.1 hh).1⟩
theorem own_keepA {w w' : World} {base : Nat} {e : TypeId} {size n c : Nat} {A : Option Addr} {xs : List Value} (h : w.ownsRow base e size (.slice A n c) n xs) (hk : ∀ g, blk A = some g → w'.heap[g]? = w.heap[g]?) : w'.ownsRow base e size (.slice A n c) n xs := by
  rcases own_addr h with ⟨rfl, _⟩ | ⟨g, rfl, _⟩
  · exact own_none_any h
  · exact own_keep h (hk g rfl)
theorem own_base {w : World} {base base' : Nat} {e : TypeId} {size n c : Nat} {A : Option Addr} {xs : List Value} (h : w.ownsRow base e size (.slice A n c) n xs) (hb : base' ≤ base) : w.ownsRow base' e size (.slice A n c) n xs := by
  refine ⟨h.1, ?_⟩
  rcases h.2 with h | ⟨g, cap, cur, hv, h1, h2⟩
  · exact .inl h
  · exact .inr ⟨g, cap, cur, hv, Nat.le_trans hb h1, h2⟩
theorem own_cap {w : World} {base : Nat} {e : TypeId} {size n c : Nat} {A : Option Addr} {xs : List Value} (h : w.ownsRow base e size (.slice A n c) n xs) : n ≤ c ∧ c ≤ maxLen := by
  rcases h.2 with ⟨h, h'⟩ | ⟨g, cap, cur, hv, hb, hh, h1, h2, _⟩
  · injection h with a b c'; subst c'; subst h'; exact ⟨Nat.le_refl _, by unfold maxLen; omega⟩
  · injection hv with a b c'; subst c'; exact ⟨h1, h2⟩
theorem own_cells {w : World} {base : Nat} {e : TypeId} {size g n c : Nat} {xs : List Value} (h : w.ownsRow base e size (.slice (some ⟨g, 0, none⟩) n c) n xs) (j : Nat) (hj : j < n * size) : w.cell? ⟨g, j, none⟩ = xs[j]? := h.cellAt j hj
theorem ownBlock_blk (A : Option Addr) (n c : Nat) : (Value.slice A n c).ownBlock = blk A := by cases A <;> rfl
theorem add_at (ad : Addr) (k i : Nat) (h : 0 < i) : ad.add (k + i) = { block := (ad.add k).block, off := (ad.add k).off + i } := by
  unfold Addr.add
  by_cases hk : k = 0
  · subst hk; simp [Nat.ne_of_gt h]
  · simp [hk, Nat.add_assoc]
theorem at_off {w : World} {ad : Addr} {k : Nat} {v : Value} (i : Nat) (h : w.cell? (ad.add (k + i)) = some v) (hi : 0 < i) : w.cell? { block := (ad.add k).block, off := (ad.add k).off + i } = some v := by
  rw [← add_at ad k i hi]; exact h
/- a pool as a value, and in memory. -/
theorem add_add (ad : Addr) (k j : Nat) : (ad.add k).add j = ad.add (k + j) := by
  by_cases h : j = 0
  · subst h; simp [Addr.add]
  · rw [add_at ad k j (by omega)]; unfold Addr.add; simp [h]
theorem list_cells {w : World} {ad : Addr} {cs : List Value} (h : ∀ j (hj : j < cs.length), w.cell? (ad.add j) = some cs[j]) : ∀ j v, cs[j]? = some v → w.cell? (ad.add j) = some v := fun j v hv => by
  obtain ⟨hj, rfl⟩ := List.getElem?_eq_some_iff.1 hv
  exact h j hj
/-- a row that was made: its elements are all nothing. -/
theorem flat_made {α : Type} (L : α → List Value) (k : Nat) (hL : ∀ x, (L x).length = k) (hk : 0 < k) (e0 : α) (m : Nat) : (madeCells (L e0).toArray (m * k)).toList = (List.replicate m e0).flatMap L := by
  unfold madeCells
  refine List.ext_getElem? fun j => ?_
  by_cases hj : j < m * k
  · have h1 : j / k < m := (Nat.div_lt_iff_lt_mul hk).2 hj
    have h2 : j % k < k := Nat.mod_lt _ hk
    have h3 := flat_get L k hL (List.replicate m e0) (j / k) (j % k) (by simpa using h1) h2
    rw [show j / k * k + j % k = j by rw [Nat.mul_comm]; exact Nat.div_add_mod j k] at h3
    rw [h3]
    have h4 : j % k < (L e0).length := by rw [hL]; exact h2
    simp [hj, List.getElem?_eq_getElem h4]
    rw [hL, List.getElem?_eq_getElem h4]
    rfl
  · have hl := flat_len L k hL (List.replicate m e0)
    rw [List.length_replicate] at hl
    rw [List.getElem?_eq_none (by rw [Array.length_toList, Array.size_map, Array.size_range]; omega), List.getElem?_eq_none (by rw [hl]; omega)]
theorem own_rd {w : World} {base : Nat} {e : TypeId} {size n c : Nat} {A : Option Addr} {xs : List Value} (h : w.ownsRow base e size (.slice A n c) n xs) : RdC w A xs := by
  rcases own_addr h with ⟨rfl, hz, _⟩ | ⟨g, rfl, _, _⟩
  · have := h.1
    rw [hz, Nat.zero_mul] at this
    exact .inl (List.eq_nil_of_length_eq_zero this)
  · refine .inr ⟨_, rfl, fun j u hj => ?_⟩
    rw [Addr.add_mid, Nat.zero_add, own_cells h j (by have := h.1; have := (List.getElem?_eq_some_iff.1 hj).1; omega)]
    exact hj
end Go.Proofs.Ytgapcfplicgmaaa

/- Tables of keys in memory. -/
namespace Go.Proofs.Ytgapcfplicgmaaa
open Go.ChangeShapes Go.WideShapes Go.ChangeAt Go.RowKit
set_option linter.unusedVariables false
set_option linter.unusedSimpArgs false

def Cl.L (c : Cl) : List Value := [.bool c.used, .int .i64 c.key.proto, .int .u32 c.key.src, .int .i64 c.key.sport, .int .u32 c.key.dst, .int .i64 c.key.dport, .int .i64 c.num]
abbrev clL (c : Cl) : List Value := [.bool c.used, .int .i64 c.key.proto, .int .u32 c.key.src, .int .i64 c.key.sport, .int .u32 c.key.dst, .int .i64 c.key.dport, .int .i64 c.num]
abbrev clV (c : Cl) : Value := .agg #[.bool c.used, .int .i64 c.key.proto, .int .u32 c.key.src, .int .i64 c.key.sport, .int .u32 c.key.dst, .int .i64 c.key.dport, .int .i64 c.num]
abbrev oCl (c : Cl) : Obj := .cells #[.bool c.used, .int .i64 c.key.proto, .int .u32 c.key.src, .int .i64 c.key.sport, .int .u32 c.key.dst, .int .i64 c.key.dport, .int .i64 c.num] 52
theorem Cl.len (c : Cl) : c.L.length = 7 := rfl
theorem info_cl : (Try.prog.info? 52).map (·.size) = some 7 := by kernel_rfl
theorem info_clz : (Try.prog.info? 52).map (fun i => (i.zero, i.size, i.bytes)) = some (some (.agg #[.bool false, .int .i64 0, .int .u32 0, .int .i64 0, .int .u32 0, .int .i64 0, .int .i64 0]), 7, 56) := by kernel_rfl
theorem cl_one (l : List Cl) : ∀ u ∈ l.flatMap Cl.L, u.oneCell' = true := fun u hu => by
  obtain ⟨e, _, he⟩ := List.mem_flatMap.1 hu
  simp only [Cl.L, List.mem_cons, List.not_mem_nil, or_false] at he
  rcases he with rfl | rfl | rfl | rfl | rfl | rfl | rfl <;> rfl
/-- a table in memory. -/
structure CsAt (w : World) (l : List Cl) (A : Option Addr) (c : Nat) : Prop where
  len : l.length ≤ c
  cap : c ≤ 9223372036854775807
  nil : A = none → c = 0
  rng : ∀ i, RngTp (atC l i).key
  rd : RdC w A (l.flatMap Cl.L)
section
variable {w w' : World} {l : List Cl} {A : Option Addr} {c : Nat}
theorem CsAt.at (h : CsAt w l A c) (y : Below w.heap.size w w') : CsAt w' l A c := ⟨h.len, h.cap, h.nil, h.rng, h.rd.keep y⟩
/-- a place of the table. -/
theorem CsAt.cell (h : CsAt w l A c) {i : Nat} (hi : i < l.length) : ∃ ad, A = some ad ∧ ∀ Y, Below w.heap.size w Y → ∀ j v, (clL (atC l i))[j]? = some v → Y.cell? ((ad.add (i * 7)).add j) = some v := by
  rcases h.rd with h0 | ⟨ad, e, hc⟩
  · have := flat_len Cl.L 7 Cl.len l
    rw [h0] at this
    simp at this
    omega
  · refine ⟨ad, e, fun Y y j v hv => ?_⟩
    have hj : j < 7 := by have := (List.getElem?_eq_some_iff.1 hv).1; simpa using this
    have h1 : (l.flatMap Cl.L)[i * 7 + j]? = some v := by
      rw [flat_get Cl.L 7 Cl.len l i j hi hj, ← atC_get hi]; exact hv
    have h2 := hc _ _ h1
    rw [add_add]
    exact (y.cell (World.block_lt_of_cell? w _ h2)).trans h2
end
theorem rng_cl0 : RngTp cl0.key := ⟨by decide, by decide, by decide, by decide⟩
set_option maxRecDepth 100000 in
theorem eqInCl (m n : Cl) (w : World) : (Op.equalIn 10000 52 (clV m) (clV n)).run Try.prog w = .ok (sameCl m n) w := by
  have hS : Try.prog.underlying 52 = some (.struct (Try.prog.fieldsOf 52)) := by kernel_rfl
  have hp : Try.prog.stoodInHeld 52 = false := by kernel_rfl
  have hS2 : Try.prog.underlying 25 = some (.struct (Try.prog.fieldsOf 25)) := by kernel_rfl
  have hp2 : Try.prog.stoodInHeld 25 = false := by kernel_rfl
  have u3 := Try.underlying3
  have u4 := Try.underlying23
  have u5 := Try.underlying4
  have a3 := Try.isAgg3
  have z3 := Try.sizeOf3
  have a4 := Try.isAgg23
  have z4 := Try.sizeOf23
  have a5 := Try.isAgg4
  have z5 := Try.sizeOf4
  have a6 := Try.isAgg25
  have z6 := Try.sizeOf25
  rw [show (10000 : Nat) = 9999 + 1 from rfl, run_equalIn_agg w 9999 52 _ _ hS hp]
  simp only [Program.fieldsOf, Try.underlying52]
  obtain ⟨m1, ⟨m2, m3, m4, m5, m6⟩, m7⟩ := m
  obtain ⟨n1, ⟨n2, n3, n4, n5, n6⟩, n7⟩ := n
  unfold sameCl
  dsimp only
  have q := fun W => eqInTpD 9997 ⟨m2, m3, m4, m5, m6⟩ ⟨n2, n3, n4, n5, n6⟩ W
  simp only [Op.eqFields]
  go_simp
  generalize sameTp ⟨m2, m3, m4, m5, m6⟩ ⟨n2, n3, n4, n5, n6⟩ = s
  by_cases h1 : m1 = n1 <;> by_cases h7 : m7 = n7 <;> cases s <;> simp [h1, h7]
theorem eqCl (m n : Cl) (w : World) : (binOp .eql 52 (clV m) (clV n)).run Try.prog w = .ok (.bool (sameCl m n)) w := by
  rw [run_eql_struct, eqInCl]; rfl
theorem neCl (m n : Cl) (w : World) : (binOp .neq 52 (clV m) (clV n)).run Try.prog w = .ok (.bool (!sameCl m n)) w := by
  rw [run_neq_struct, eqInCl]; rfl
end Go.Proofs.Ytgapcfplicgmaaa

/- Contracts of the document's own answers for package index: Len, size, New. -/
namespace Go.Proofs.Ytgapcfplicgmaaa
open Go.ChangeShapes Go.WideShapes Go.ChangeAt Go.RowKit
set_option linter.unusedVariables false
set_option linter.unusedSimpArgs false

theorem used_take (l : List Cl) (i : Nat) (h : i < l.length) : usedN (l.take (i + 1)) = usedN (l.take i) + (if (atC l i).used then 1 else 0) := by
  unfold usedN
  rw [List.take_succ_eq_append_getElem h, List.countP_append, atC_get h]
  cases hu : (l[i]).used <;> simp [hu]
set_option maxRecDepth 100000 in
set_option maxHeartbeats 4000000 in
theorem rlen10 (l : List Cl) (A : Option Addr) (c : Nat) (w : World) (h : CsAt w l A c) (n : Nat) (hn : usedN l = n) :
    Calls Try.prog 16 #[.slice A l.length c] w fun e w' => e = .returned (.int .i64 n) ∧ w = w' := by
  have HC := Go.Lib.hid h
  have hl := h.len
  have hc := h.cap
  have HN := Go.Lib.hid hn
  clear h hn
  go_enter Try.func16, Try.ntmps16
  go_wp2_with fail
  go_loop [3, 4] (fun x i => ∃ k : Nat, k ≤ l.length ∧ i = .int .i64 k ∧ x = .int .i64 (usedN (l.take k) : Nat)) (fun x i => l.length - (intOf i).toNat)
  case atStart => exact ⟨0, by omega, rfl, by simp [usedN]⟩
  case round =>
    obtain ⟨k, hk, rfl, rfl⟩ := hrel
    by_cases hlt : k < l.length
    · obtain ⟨ad, rfl, hcell⟩ := HC.out.cell hlt
      have HS := Go.Lib.hid (used_take l k hlt)
      have hu0 : usedN (l.take k) ≤ k := by unfold usedN; have := List.countP_le_length (p := Cl.used) (l := l.take k); rw [List.length_take] at this; omega
      have d0 := hcell w (Below.refl _ _) 0 _ rfl
      rw [add_add, Nat.add_zero] at d0
      have i1 : (0 : Int) ≤ (k : Int) := by omega
      have i2 : (k : Int) < (l.length : Int) := by omega
      generalize usedN (l.take k) = u at *
      generalize atC l k = y at *
      clear hcell
      cases hy : y.used
      · rw [hy] at d0 HS
        clear hy
        go_wp2
        go_round
        case rel => exact ⟨k + 1, by omega, by go_num, by rw [HS.out]; rfl⟩
        case measure => simp [intOf]; omega
      · rw [hy] at d0 HS
        clear hy
        go_wp2
        go_round
        case rel => exact ⟨k + 1, by omega, by go_num, by rw [HS.out]; go_num⟩
        case measure => simp [intOf]; omega
    · obtain rfl : k = l.length := by omega
      go_wp2
      go_ret
      exact ⟨by rw [← HN.out]; rfl, rfl⟩
def sizeI (n : Int) : Bool := [2, 4, 8, 16, 32, 64, 128, 256, 512, 1024].contains n
theorem sizeI_nat (n : Nat) : sizeI n = sizeC n := by
  unfold sizeI sizeC
  rw [Bool.eq_iff_iff]
  simp
  omega
theorem sizeI_neg {n : Int} (h : n < 0) : sizeI n = false := by
  unfold sizeI
  simp
  omega
set_option maxRecDepth 100000 in
set_option maxHeartbeats 4000000 in
theorem rsize10 (n : Int) (w : World) (b : Bool) (hb : sizeI n = b) :
    Calls Try.prog 22 #[.int .i64 n] w fun e w' => e = .returned (.bool b) ∧ w = w' := by
  have HB := Go.Lib.hid hb
  clear hb
  go_enter Try.func22, Try.ntmps22
  go_wp2_with fail
  go_loop [3] (fun i => ∃ m : Int, i = .int .i64 m ∧ (m = 2 ∨ m = 4 ∨ m = 8 ∨ m = 16 ∨ m = 32 ∨ m = 64 ∨ m = 128 ∨ m = 256 ∨ m = 512 ∨ m = 1024 ∨ m = 2048) ∧ Hid (∀ p ∈ ([2, 4, 8, 16, 32, 64, 128, 256, 512, 1024] : List Int), p < m → n ≠ p)) (fun i => (4096 - intOf i).toNat)
  case atStart => exact ⟨2, rfl, .inl rfl, Go.Lib.hid (by intro p hp; simp at hp; omega)⟩
  case round =>
    obtain ⟨m, rfl, hm, HM⟩ := hrel
    by_cases hle : m ≤ 1024
    · have HG : Hid (m ∈ ([2, 4, 8, 16, 32, 64, 128, 256, 512, 1024] : List Int)) := Go.Lib.hid (by simp; omega)
      have HX : Hid (m * 2 = 4 ∨ m * 2 = 8 ∨ m * 2 = 16 ∨ m * 2 = 32 ∨ m * 2 = 64 ∨ m * 2 = 128 ∨ m * 2 = 256 ∨ m * 2 = 512 ∨ m * 2 = 1024 ∨ m * 2 = 2048) := Go.Lib.hid (by omega)
      have HY : Hid (n ≠ m → ∀ p ∈ ([2, 4, 8, 16, 32, 64, 128, 256, 512, 1024] : List Int), p < m * 2 → n ≠ p) := Go.Lib.hid (fun hne p hp hlt => by
        by_cases h2 : p < m
        · exact HM.out p hp h2
        · have : p = m := by simp at hp; omega
          rw [this]; exact hne)
      have m0 : 2 ≤ m := by omega
      clear hm
      have f1 : IntKind.i64.wrap (m * 2) = m * 2 := IntWalk.i64_in _ (by omega)
      by_cases he : m = n
      · subst he
        have t1 : b = true := by rw [← HB.out]; unfold sizeI; rw [List.contains_iff_mem]; exact HG.out
        have te : (m == m) = true := by simp
        go_wp2
        go_ret
        exact ⟨rfl, rfl⟩
      · have te : (m == n) = false := by simpa using he
        go_wp2
        go_round
        case rel => exact ⟨m * 2, rfl, .inr HX.out, Go.Lib.hid (HY.out (fun e => he e.symm))⟩
        case measure => simp [intOf]; omega
    · have hm2 : m = 2048 := by omega
      have t1 : b = false := by
        rw [← HB.out]
        unfold sizeI
        cases hc : ([2, 4, 8, 16, 32, 64, 128, 256, 512, 1024] : List Int).contains n
        · rfl
        · have hmem := List.contains_iff_mem.1 hc
          exact absurd rfl (HM.out n hmem (by simp at hmem; omega))
      clear hm
      subst hm2
      go_wp2
      go_ret
      exact ⟨rfl, rfl⟩
set_option maxRecDepth 100000 in
set_option maxHeartbeats 4000000 in
theorem rnew10 (n : Int) (w : World) (q : List Cl × Int) (hq : newC n = q) :
    Calls Try.prog 9 #[.int .i64 n] w fun e w' => ∃ A c, e = .returned (.tuple #[.slice A q.1.length c, .int .i64 q.2]) ∧ CsAt w' q.1 A c ∧ Below w.heap.size w w' := by
  cases hs : sizeI n
  · have hq2 : q = ([], 1) := by
      rw [← hq]; unfold newC
      rw [if_neg]
      rintro ⟨h0, h1⟩
      obtain ⟨k, rfl⟩ : ∃ k : Nat, n = (k : Int) := ⟨n.toNat, by omega⟩
      rw [sizeI_nat] at hs
      rw [show ((k : Int)).toNat = k from rfl, hs] at h1
      cases h1
    subst hq2
    go_enter Try.func9, Try.ntmps9
    go_wp2_with (go_at_call 22; refine (rsize10 n _ false hs).mono ?_; rintro e w1 ⟨rfl, rfl⟩; dsimp only)
    refine bodyPost_ret (v := .tuple #[.slice none 0 0, .int .i64 1]) ?_ rfl ⟨none, 0, rfl, ⟨Nat.le_refl _, by omega, fun _ => rfl, fun i => rng_cl0, .inl rfl⟩, Below.refl _ _⟩
    simp [results, Try.results9, go_sem]
  · obtain ⟨k, rfl⟩ : ∃ k : Nat, n = (k : Int) := ⟨n.toNat, by
      rcases Int.lt_or_le n 0 with h | h
      · rw [sizeI_neg h] at hs; cases hs
      · omega⟩
    have hk : sizeC k = true := by rw [← sizeI_nat]; exact hs
    have hp := sizeC_pos hk
    have hq2 : q = (List.replicate k cl0, 0) := by
      rw [← hq]; unfold newC
      rw [if_pos ⟨by omega, hk⟩]; rfl
    subst hq2
    clear hq
    obtain ⟨i0, hi, hz0, hz1, hz2⟩ := info_parts info_clz
    go_enter Try.func9, Try.ntmps9
    go_wp2_with (first
      | (go_at_call 22; refine (rsize10 (k : Int) _ true hs).mono ?_; rintro e w1 ⟨rfl, rfl⟩; dsimp only)
      | (at_make; refine wpList_make_full _ rfl _ _ 22 rfl w.heap.size 52 i0 _ 7 Try.underlying22 hi hz0 hz1 _ _ _ _ k rfl rfl rfl rfl (by rw [hz2]; omega) (by unfold maxLen; omega) (Nat.le_refl _) ?_; intro w1 ho1 hg1; have HO1 := Go.Lib.hid ho1; have HG1 := Go.Lib.hid hg1; clear ho1 hg1))
    have y1 : Below w.heap.size w w1 := (Below.refl _ _).grown HG1.out (Nat.le_refl _) (fun k hk => by cases hk)
    have hm : (madeCells (Value.agg #[.bool false, .int .i64 0, .int .u32 0, .int .i64 0, .int .u32 0, .int .i64 0, .int .i64 0]).cells (k * 7)).toList = (List.replicate k cl0).flatMap Cl.L := flat_made Cl.L 7 Cl.len (by omega) cl0 k
    have hrd := own_rd HO1.out
    rw [hm] at hrd
    refine bodyPost_ret (v := .tuple #[.slice (some ⟨w.heap.size, 0, none⟩) k k, .int .i64 0]) ?_ rfl ⟨some ⟨w.heap.size, 0, none⟩, k, by rw [List.length_replicate], ⟨by rw [List.length_replicate]; exact Nat.le_refl _, by omega, fun h => (by cases h), fun i => by rw [show atC (List.replicate k cl0) i = cl0 by unfold atC; rw [List.getD_eq_getElem?_getD, List.getElem?_replicate]; split <;> rfl]; exact rng_cl0, hrd⟩, y1⟩
    simp [results, Try.results9, go_sem]
end Go.Proofs.Ytgapcfplicgmaaa

/- Contracts of the document's own answers for package tuple: low, Nums, Turn, Right. -/
namespace Go.Proofs.Ytgapcfplicgmaaa
open Go.ChangeShapes Go.WideShapes Go.ChangeAt Go.RowKit
set_option linter.unusedVariables false
set_option linter.unusedSimpArgs false

theorem tmod_low (n m : Int) (m0 : 0 < m) : (if Int.tmod n m < 0 then Int.tmod n m + m else Int.tmod n m) = n % m := by
  have e1 := Int.tmod_add_mul_tdiv n m
  have e2 := Int.emod_add_mul_ediv n m
  by_cases h : 0 ≤ n
  · rw [Int.tmod_eq_emod_of_nonneg h]
    have := Int.emod_nonneg n (show m ≠ 0 by omega)
    rw [if_neg (by omega)]
  · have h1 : Int.tmod n m = -((-n) % m) := by
      rw [← Int.tmod_eq_emod_of_nonneg (show 0 ≤ -n by omega), Int.neg_tmod]; omega
    have h2 := Int.emod_nonneg (-n) (show m ≠ 0 by omega)
    have h3 := Int.emod_lt_of_pos (-n) m0
    rw [h1]
    by_cases h4 : (-n) % m = 0
    · rw [h4, if_neg (by omega)]
      have : m ∣ n := by have := Int.dvd_of_emod_eq_zero h4; exact (Int.dvd_neg).1 this
      rw [Int.emod_eq_zero_of_dvd this]; rfl
    · rw [if_pos (by omega)]
      have e3 := Int.emod_add_mul_ediv (-n) m
      generalize (-n) % m = r at *
      generalize (-n) / m = q at *
      have e4 : n = (m - r) + m * (-q - 1) := by rw [Int.mul_sub, Int.mul_neg, Int.mul_one]; omega
      rw [e4, Int.add_mul_emod_self_left, Int.emod_eq_of_lt (by omega) (by omega)]
      omega
set_option maxRecDepth 100000 in
set_option maxHeartbeats 4000000 in
theorem rlow (n m : Int) (w : World) (m0 : 0 < m) (m1 : m ≤ 65536) :
    Calls Try.prog 39 #[.int .i64 n, .int .i64 m] w fun e w' => e = .returned (.int .i64 (n % m)) ∧ w = w' := by
  have ht := tmod_low n m m0
  have b1 := Int.tmod_lt_of_pos n m0
  have b2 : -m < Int.tmod n m := Int.lt_tmod_of_pos n m0
  have f1 : IntKind.i64.wrap (Int.tmod n m) = Int.tmod n m := IntWalk.i64_in _ (by omega)
  have hm : ¬ m = 0 := by omega
  obtain ⟨k, hk⟩ : ∃ k, Int.tmod n m = k := ⟨_, rfl⟩
  by_cases h : k < 0
  · have f2 : IntKind.i64.wrap (k + m) = k + m := IntWalk.i64_in _ (by omega)
    rw [hk] at ht f1 b1 b2
    rw [if_pos h] at ht
    have HT := Go.Lib.hid ht
    clear ht b1 b2
    go_enter Try.func39, Try.ntmps39
    go_wp2
    go_ret
    exact ⟨by rw [← HT.out]; rfl, rfl⟩
  · rw [hk] at ht f1 b1 b2
    rw [if_neg h] at ht
    have HT := Go.Lib.hid ht
    clear ht b1 b2
    go_enter Try.func39, Try.ntmps39
    go_wp2
    go_ret
    exact ⟨by rw [← HT.out]; rfl, rfl⟩
set_option maxRecDepth 100000 in
set_option maxHeartbeats 4000000 in
theorem rright9 (t : Tp) (w : World) (b : Bool) (hb : rightT t = b) : Calls Try.prog 26 #[tpV t] w fun e w' => e = .returned (.bool b) ∧ Below w.heap.size w w' := by
  have HB := Go.Lib.hid hb
  have y0 : Below w.heap.size w (w.alloc (oTp t)) := (Below.refl _ _).alloc (Nat.le_refl _) _
  have h1 := Bxo.made w 25 (tpL t)
  clear hb
  go_enter Try.func26, Try.ntmps26
  go_upto_region 1 with fail
  generalize w.alloc (oTp t) = W at *
  have c0 := h1.cell 0 rfl
  have c2 := h1.cell 2 rfl
  have c4 := h1.cell 4 rfl
  clear h1
  by_cases h0 : 0 ≤ t.proto
  · by_cases h1 : t.proto < 256
    · by_cases h2 : 0 ≤ t.sport
      · by_cases h3 : t.sport < 65536
        · by_cases h4 : 0 ≤ t.dport
          · by_cases h5 : t.dport < 65536
            · go_wp2
              go_ret
              exact ⟨ret_bool (by rw [← HB.out]; unfold rightT inT; first | (simp [*]; done) | (simp [*]; omega)), y0⟩
            · go_wp2
              go_ret
              exact ⟨ret_bool (by rw [← HB.out]; unfold rightT inT; first | (simp [*]; done) | (simp [*]; omega)), y0⟩
          · go_wp2
            go_ret
            exact ⟨ret_bool (by rw [← HB.out]; unfold rightT inT; first | (simp [*]; done) | (simp [*]; omega)), y0⟩
        · go_wp2
          go_ret
          exact ⟨ret_bool (by rw [← HB.out]; unfold rightT inT; first | (simp [*]; done) | (simp [*]; omega)), y0⟩
      · go_wp2
        go_ret
        exact ⟨ret_bool (by rw [← HB.out]; unfold rightT inT; first | (simp [*]; done) | (simp [*]; omega)), y0⟩
    · go_wp2
      go_ret
      exact ⟨ret_bool (by rw [← HB.out]; unfold rightT inT; first | (simp [*]; done) | (simp [*]; omega)), y0⟩
  · go_wp2
    go_ret
    exact ⟨ret_bool (by rw [← HB.out]; unfold rightT inT; first | (simp [*]; done) | (simp [*]; omega)), y0⟩
abbrev nmL (t : Tp) : List Value := [.int .i64 (t.proto % 256), .int .i64 t.src, .int .i64 (t.sport % 65536), .int .i64 t.dst, .int .i64 (t.dport % 65536)]
theorem info_n5 : (Try.prog.info? 64).map (·.size) = some 5 := by kernel_rfl
set_option maxRecDepth 100000 in
set_option maxHeartbeats 4000000 in
theorem rnums (t : Tp) (ht : RngTp t) (w : World) : Calls Try.prog 36 #[tpV t] w fun e w' => e = .returned (.agg (nmL t).toArray) ∧ Below w.heap.size w w' := by
  have s0 := ht.s0
  have s1 := ht.s1
  have d0 := ht.d0
  have d1 := ht.d1
  have cv1 : IntKind.i64.wrap t.src = t.src := IntWalk.i64_in _ (by omega)
  have cv2 : IntKind.i64.wrap t.dst = t.dst := IntWalk.i64_in _ (by omega)
  have y0 : Below w.heap.size w ((w.alloc (oTp t)).alloc (.cells #[.int .i64 0, .int .i64 0, .int .i64 0, .int .i64 0, .int .i64 0] 64)) := below_alloc (below_alloc (Below.refl _ _) (Nat.le_refl _) _) (by simp) _
  have h1 := (Bxo.made w 25 (tpL t)).alloc (.cells #[.int .i64 0, .int .i64 0, .int .i64 0, .int .i64 0, .int .i64 0] 64)
  have h2 : Bxo ((w.alloc (oTp t)).alloc (.cells #[.int .i64 0, .int .i64 0, .int .i64 0, .int .i64 0, .int .i64 0] 64)) (w.heap.size + 1) 64 [.int .i64 0, .int .i64 0, .int .i64 0, .int .i64 0, .int .i64 0] := by
    have := Bxo.made (w.alloc (oTp t)) 64 [.int .i64 0, .int .i64 0, .int .i64 0, .int .i64 0, .int .i64 0]
    simpa using this
  go_enter Try.func36, Try.ntmps36
  go_upto_region 1 with fail
  generalize ((w.alloc (oTp t)).alloc (.cells #[.int .i64 0, .int .i64 0, .int .i64 0, .int .i64 0, .int .i64 0] 64)) = W at *
  have H1 := Go.Lib.hid h1
  have H2 := Go.Lib.hid h2
  clear h1 h2 ht
  try simp only [Act.put, List.setIfInBounds_toArray, List.set_cons_zero, List.set_cons_succ]
  refine wp_region_held_drew (S := fun Y => Bxo Y w.heap.size 25 (tpL t)) (by kernel_rfl) ?_ (fun hHeld => ?_)
  · exact H1.out.drew
  refine wpAnyH_take (i := 0) (oi := ⟨some 3, _, _, _, _, _⟩) (v := ?_) rfl (by kernel_rfl) (by kernel_rfl) (by kernel_rfl) (fun _ _ _ h => h) (Or.inl ⟨by rfl, ?_⟩) (by assumption) ?_
  rotate_left
  · intro w hSw; (try dsimp only at hSw); go_simp; (try with_reducible rfl)
  try simp only [Act.put, List.setIfInBounds_toArray, List.set_cons_zero, List.set_cons_succ]
  refine wpAnyH_take (i := 1) (oi := ⟨some 4, _, _, _, _, _⟩) (v := ?_) rfl (by kernel_rfl) (by kernel_rfl) (by kernel_rfl) (fun _ _ _ h => h) (Or.inl ⟨by rfl, ?_⟩) (by assumption) ?_
  rotate_left
  · intro w hSw; have x0 := hSw.cell 0 rfl; (try dsimp only at hSw); go_simp; (try with_reducible rfl)
  try simp only [Act.put, List.setIfInBounds_toArray, List.set_cons_zero, List.set_cons_succ]
  refine wpAnyH_take (i := 3) (oi := ⟨some 6, _, _, _, _, _⟩) (v := ?_) rfl (by kernel_rfl) (by kernel_rfl) (by kernel_rfl) (fun _ _ _ h => h) (Or.inl ⟨by rfl, ?_⟩) (by assumption) ?_
  rotate_left
  · intro w hSw; (try dsimp only at hSw); go_simp; (try with_reducible rfl)
  try simp only [Act.put, List.setIfInBounds_toArray, List.set_cons_zero, List.set_cons_succ]
  refine wpAnyH_take (i := 4) (oi := ⟨some 7, _, _, _, _, _⟩) (v := ?_) rfl (by kernel_rfl) (by kernel_rfl) (by kernel_rfl) (fun _ _ _ h => h) (Or.inl ⟨by rfl, ?_⟩) (by assumption) ?_
  rotate_left
  · intro w hSw; have x1 := hSw.cell 1 rfl; (try dsimp only at hSw); go_simp; (try with_reducible rfl)
  try simp only [Act.put, List.setIfInBounds_toArray, List.set_cons_zero, List.set_cons_succ]
  refine wpAnyH_take (i := 5) (oi := ⟨some 8, _, _, _, _, _⟩) (v := ?_) rfl (by kernel_rfl) (by kernel_rfl) (by kernel_rfl) (fun _ _ _ h => h) (Or.inl ⟨by rfl, ?_⟩) (by assumption) ?_
  rotate_left
  · intro w hSw; (try dsimp only at hSw); go_simp; (try with_reducible rfl)
  try simp only [Act.put, List.setIfInBounds_toArray, List.set_cons_zero, List.set_cons_succ]
  refine wpAnyH_take (i := 6) (oi := ⟨some 9, _, _, _, _, _⟩) (v := ?_) rfl (by kernel_rfl) (by kernel_rfl) (by kernel_rfl) (fun _ _ _ h => h) (Or.inl ⟨by rfl, ?_⟩) (by assumption) ?_
  rotate_left
  · intro w hSw; (try dsimp only at hSw); go_simp; (try with_reducible rfl)
  try simp only [Act.put, List.setIfInBounds_toArray, List.set_cons_zero, List.set_cons_succ]
  refine wpAnyH_take (i := 7) (oi := ⟨some 10, _, _, _, _, _⟩) (v := ?_) rfl (by kernel_rfl) (by kernel_rfl) (by kernel_rfl) (fun _ _ _ h => h) (Or.inl ⟨by rfl, ?_⟩) (by assumption) ?_
  rotate_left
  · intro w hSw; have x2 := hSw.cell 2 rfl; (try dsimp only at hSw); go_simp; (try with_reducible rfl)
  try simp only [Act.put, List.setIfInBounds_toArray, List.set_cons_zero, List.set_cons_succ]
  refine wpAnyH_take (i := 9) (oi := ⟨some 12, _, _, _, _, _⟩) (v := ?_) rfl (by kernel_rfl) (by kernel_rfl) (by kernel_rfl) (fun _ _ _ h => h) (Or.inl ⟨by rfl, ?_⟩) (by assumption) ?_
  rotate_left
  · intro w hSw; (try dsimp only at hSw); go_simp; (try with_reducible rfl)
  try simp only [Act.put, List.setIfInBounds_toArray, List.set_cons_zero, List.set_cons_succ]
  refine wpAnyH_take (i := 10) (oi := ⟨some 13, _, _, _, _, _⟩) (v := ?_) rfl (by kernel_rfl) (by kernel_rfl) (by kernel_rfl) (fun _ _ _ h => h) (Or.inl ⟨by rfl, ?_⟩) (by assumption) ?_
  rotate_left
  · intro w hSw; have x3 := hSw.cell 3 rfl; (try dsimp only at hSw); go_simp; (try with_reducible rfl)
  try simp only [Act.put, List.setIfInBounds_toArray, List.set_cons_zero, List.set_cons_succ]
  refine wpAnyH_take (i := 11) (oi := ⟨some 14, _, _, _, _, _⟩) (v := ?_) rfl (by kernel_rfl) (by kernel_rfl) (by kernel_rfl) (fun _ _ _ h => h) (Or.inl ⟨by rfl, ?_⟩) (by assumption) ?_
  rotate_left
  · intro w hSw; (try dsimp only at hSw); go_simp; (try with_reducible rfl)
  try simp only [Act.put, List.setIfInBounds_toArray, List.set_cons_zero, List.set_cons_succ]
  refine wpAnyH_take (i := 12) (oi := ⟨some 15, _, _, _, _, _⟩) (v := ?_) rfl (by kernel_rfl) (by kernel_rfl) (by kernel_rfl) (fun _ _ _ h => h) (Or.inl ⟨by rfl, ?_⟩) (by assumption) ?_
  rotate_left
  · intro w hSw; (try dsimp only at hSw); go_simp; (try with_reducible rfl)
  try simp only [Act.put, List.setIfInBounds_toArray, List.set_cons_zero, List.set_cons_succ]
  refine wpAnyH_take (i := 13) (oi := ⟨some 16, _, _, _, _, _⟩) (v := ?_) rfl (by kernel_rfl) (by kernel_rfl) (by kernel_rfl) (fun _ _ _ h => h) (Or.inl ⟨by rfl, ?_⟩) (by assumption) ?_
  rotate_left
  · intro w hSw; have x4 := hSw.cell 4 rfl; (try dsimp only at hSw); go_simp; (try with_reducible rfl)
  try simp only [Act.put, List.setIfInBounds_toArray, List.set_cons_zero, List.set_cons_succ]
  refine wpAnyH_ready (rs := [2]) (by kernel_rfl) (by simp) (AllReadyH.cons (o := ⟨some 5, _, _, _, _, _⟩) rfl (fun Kc hKc => ?_) AllReadyH.nil)
  go_simp
  go_at_call 39; refine (rlow t.proto 256 _ (by omega) (by omega)).mono ?_; rintro e wl ⟨rfl, rfl⟩; dsimp only
  refine hKc.out _ _ (hHeld) (fun hHeld => ?_)
  clear hKc Kc
  try simp only [Act.put, List.setIfInBounds_toArray, List.set_cons_zero, List.set_cons_succ]
  refine wpAnyH_ready (rs := [8]) (by kernel_rfl) (by simp) (AllReadyH.cons (o := ⟨some 11, _, _, _, _, _⟩) rfl (fun Kc hKc => ?_) AllReadyH.nil)
  go_simp
  go_at_call 39; refine (rlow t.sport 65536 _ (by omega) (by omega)).mono ?_; rintro e wl ⟨rfl, rfl⟩; dsimp only
  refine hKc.out _ _ (hHeld) (fun hHeld => ?_)
  clear hKc Kc
  try simp only [Act.put, List.setIfInBounds_toArray, List.set_cons_zero, List.set_cons_succ]
  refine wpAnyH_ready (rs := [14]) (by kernel_rfl) (by simp) (AllReadyH.cons (o := ⟨some 17, _, _, _, _, _⟩) rfl (fun Kc hKc => ?_) AllReadyH.nil)
  go_simp
  go_at_call 39; refine (rlow t.dport 65536 _ (by omega) (by omega)).mono ?_; rintro e wl ⟨rfl, rfl⟩; dsimp only
  refine hKc.out _ _ (hHeld) (fun hHeld => ?_)
  clear hKc Kc
  try simp only [Act.put, List.setIfInBounds_toArray, List.set_cons_zero, List.set_cons_succ]
  refine wpAnyH_take (i := 15) (oi := ⟨some 18, _, _, _, _, _⟩) (v := ?_) rfl (by kernel_rfl) (by kernel_rfl) (by kernel_rfl) (fun _ _ _ h => h) (Or.inl ⟨by rfl, ?_⟩) (by assumption) ?_
  rotate_left
  · intro w hSw; (try dsimp only at hSw); go_simp; (try with_reducible rfl)
  try simp only [Act.put, List.setIfInBounds_toArray, List.set_cons_zero, List.set_cons_succ]
  refine wpAnyH_ready (rs := [16]) (by kernel_rfl) (by simp) (AllReadyH.cons (o := ⟨none, _, _, _, _, _⟩) rfl (fun Kc hKc => ?_) AllReadyH.nil)
  rw [if_pos (by rfl)]
  refine step_store_any 64 _ _ rfl (w.heap.size + 1) 0 64 _ (nmL t) _ rfl rfl rfl H2.out info_n5 (by show 0 + 5 ≤ 5; omega) (by simp [Value.oneCell']) ?_; intro wF hbF hoF; have HBF := Go.Lib.hid hbF; clear hbF
  refine hKc.out _ _ (hHeld.only hoF (by omega)) (fun hHeld => ?_)
  clear hKc Kc
  try simp only [Act.put, List.setIfInBounds_toArray, List.set_cons_zero, List.set_cons_succ]
  refine wpAnyH_done (by kernel_rfl) ?_ _
  go_wp2
  exact bodyPost_ret (v := .agg (nmL t).toArray) (results_cell_row rfl _ _ (w.heap.size + 1) 64 _ _ _ rfl HBF.out Try.underlying64 rfl info_n5) rfl ⟨rfl, y0.drew.trans (hoF.below (show w.heap.size ≤ w.heap.size + 1 by omega))⟩
end Go.Proofs.Ytgapcfplicgmaaa

/- Contracts of the document's own answers for package tuple: Less. -/
namespace Go.Proofs.Ytgapcfplicgmaaa
open Go.ChangeShapes Go.WideShapes Go.ChangeAt Go.RowKit
set_option linter.unusedVariables false
set_option linter.unusedSimpArgs false

theorem info_zn5 : (Try.prog.info? 64).map (·.zero) = some (some (.agg #[.int .i64 0, .int .i64 0, .int .i64 0, .int .i64 0, .int .i64 0])) := by kernel_rfl
theorem n5_one (t : Tp) : ∀ u ∈ nmL t, u.oneCell' = true := by simp [Value.oneCell']
theorem nm_get (t : Tp) (k : Nat) (h : k < (numsT t).length) : (nmL t)[k]? = some (.int .i64 (numsT t)[k]) := by
  match k, h with
  | 0, _ => rfl
  | 1, _ => rfl
  | 2, _ => rfl
  | 3, _ => rfl
  | 4, _ => rfl
  | m + 5, h => exact absurd h (by simp [numsT])
theorem lessL_drop (x y : List Int) (k : Nat) (hx : k < x.length) (hy : k < y.length) : lessL (x.drop k) (y.drop k) = if x[k] = y[k] then lessL (x.drop (k + 1)) (y.drop (k + 1)) else decide (x[k] < y[k]) := by
  rw [List.drop_eq_getElem_cons hx, List.drop_eq_getElem_cons hy, lessL]
end Go.Proofs.Ytgapcfplicgmaaa

/- A tuple's bytes, number by number; names that are another by a byte: plain mathematics. -/
namespace Go.Proofs.Ytgapcfplicgmaaa
open Go.RowKit
set_option linter.unusedVariables false

/-- the last s bytes of a number, the highest first. -/
def beB (n : Int) (s : Nat) : List Int := (List.range s).map (fun j => n / 256 ^ (s - 1 - j) % 256)
theorem beB_zero (n : Int) : beB n 0 = [] := rfl
theorem beB_succ (n : Int) (s : Nat) : beB n (s + 1) = (n / 256 ^ s % 256) :: beB n s := by
  unfold beB
  rw [List.range_succ_eq_map, List.map_cons, List.map_map]
  congr 1
  refine List.map_congr_left fun j hj => ?_
  simp only [Function.comp, Nat.succ_eq_add_one]
  rw [show s + 1 - 1 - (j + 1) = s - 1 - j by omega]
def bytesN : List Int → List Nat → List Int
  | n :: ns, s :: ss => beB n s ++ bytesN ns ss
  | _, _ => []
abbrev sizesT : List Nat := [1, 4, 2, 4, 2]
theorem bytesN_drop (ns : List Int) (ss : List Nat) (k : Nat) (h1 : k < ns.length) (h2 : k < ss.length) : bytesN (ns.drop k) (ss.drop k) = beB ns[k] ss[k] ++ bytesN (ns.drop (k + 1)) (ss.drop (k + 1)) := by
  rw [List.drop_eq_getElem_cons h1, List.drop_eq_getElem_cons h2, bytesN]
theorem bytes_nums (t : Tp) (h : RngTp t) : bytesN (numsT t) sizesT = bytesT t := by
  have s0 := h.s0
  have s1 := h.s1
  have d0 := h.d0
  have d1 := h.d1
  simp only [numsT, sizesT, bytesN, beB_succ, beB_zero, bytesT, List.cons_append, List.nil_append, List.append_nil]
  simp
  omega
theorem hashL_cons (h c : Int) (l : List Int) : hashL h (c :: l) = hashL (hashS h c) l := rfl
theorem nums_rng (t : Tp) (h : RngTp t) (k : Nat) (hk : k < (numsT t).length) : 0 ≤ (numsT t)[k] ∧ (numsT t)[k] ≤ 4294967295 := by
  have s0 := h.s0
  have s1 := h.s1
  have d0 := h.d0
  have d1 := h.d1
  match k, hk with
  | 0, _ => show 0 ≤ t.proto % 256 ∧ t.proto % 256 ≤ _; omega
  | 1, _ => exact ⟨s0, s1⟩
  | 2, _ => show 0 ≤ t.sport % 65536 ∧ t.sport % 65536 ≤ _; omega
  | 3, _ => exact ⟨d0, d1⟩
  | 4, _ => show 0 ≤ t.dport % 65536 ∧ t.dport % 65536 ≤ _; omega
  | m + 5, h => exact absurd h (by simp [numsT])
theorem sizes_rng (k : Nat) (hk : k < sizesT.length) : 1 ≤ sizesT[k] ∧ sizesT[k] ≤ 4 := by
  match k, hk with
  | 0, _ => show 1 ≤ (1 : Nat) ∧ (1 : Nat) ≤ 4; omega
  | 1, _ => show 1 ≤ (4 : Nat) ∧ (4 : Nat) ≤ 4; omega
  | 2, _ => show 1 ≤ (2 : Nat) ∧ (2 : Nat) ≤ 4; omega
  | 3, _ => show 1 ≤ (4 : Nat) ∧ (4 : Nat) ≤ 4; omega
  | 4, _ => show 1 ≤ (2 : Nat) ∧ (2 : Nat) ≤ 4; omega
  | m + 5, h => exact absurd h (by simp)
theorem div_pow_succ (n : Int) (j : Nat) (h : 0 ≤ n) : n / 256 ^ (j + 1) = n / 256 ^ j / 256 := by
  rw [Int.pow_succ, Int.ediv_ediv_of_nonneg (Int.pow_nonneg (by decide))]
theorem div_pow_rng (n : Int) (j : Nat) (h0 : 0 ≤ n) (h1 : n ≤ 4294967295) : 0 ≤ n / 256 ^ j ∧ n / 256 ^ j ≤ 4294967295 :=
  ⟨Int.ediv_nonneg h0 (Int.pow_nonneg (by decide)), Int.le_trans (Int.ediv_le_self _ h0) h1⟩
end Go.Proofs.Ytgapcfplicgmaaa

/- Contracts of the document's own answers for package tuple: Hash. -/
namespace Go.Proofs.Ytgapcfplicgmaaa
open Go.ChangeShapes Go.WideShapes Go.ChangeAt Go.RowKit
set_option linter.unusedVariables false
set_option linter.unusedSimpArgs false

theorem sz_get (k : Nat) (h : k < sizesT.length) : ([.int .i64 1, .int .i64 4, .int .i64 2, .int .i64 4, .int .i64 2] : List Value)[k]? = some (.int .i64 (sizesT[k] : Nat)) := by
  match k, h with
  | 0, _ => rfl
  | 1, _ => rfl
  | 2, _ => rfl
  | 3, _ => rfl
  | 4, _ => rfl
  | m + 5, h => exact absurd h (by simp)
set_option maxRecDepth 100000 in
set_option maxHeartbeats 8000000 in
theorem rhash (t : Tp) (ht : RngTp t) (seed : Int) (w : World) (q : Int) (hq : hashT t seed = q) : Calls Try.prog 33 #[tpV t, .int .u32 seed] w fun e w' => e = .returned (.int .u32 q) ∧ Below w.heap.size w w' := by
  have HQ : Hid (hashL (bits .xor .u32 2166136261 seed) (bytesN ((numsT t).drop 0) (sizesT.drop 0)) = q) := Go.Lib.hid (by rw [List.drop_zero, List.drop_zero, bytes_nums t ht]; exact hq)
  have HR := Go.Lib.hid (nums_rng t ht)
  have y0 : Below w.heap.size w (w.alloc (oTp t)) := (Below.refl _ _).alloc (Nat.le_refl _) _
  have h1 := Bxo.made w 25 (tpL t)
  have hz : (w.alloc (oTp t)).heap.size = w.heap.size + 1 := by simp
  clear hq
  go_enter Try.func33, Try.ntmps33
  go_upto_region 1 with fail
  generalize w.alloc (oTp t) = W at *
  have HA := Go.Lib.hid h1
  clear h1
  go_upto_region 3 with (first
    | (refine wpList_load_box rfl 25 _ rfl w.heap.size rfl (tpL t) _ HA.out Try.underlying25 rfl info_tp ?_)
    | (go_at_call 36; refine (rnums t ht W).mono ?_; rintro e w1 ⟨rfl, y1⟩; dsimp only)
    | (refine wpList_store_any rfl 64 _ _ rfl w1.heap.size 0 64 _ (nmL t) _ rfl rfl rfl (Bxo.made w1 64 [.int .i64 0, .int .i64 0, .int .i64 0, .int .i64 0, .int .i64 0]) info_n5 (by show 0 + 5 ≤ 5; omega) (n5_one t) ?_; intro w2 hb2 ho2; have HB2 := Go.Lib.hid hb2; clear hb2))
  have y2 : Below w.heap.size w w2 := (below_alloc (y0.trans (y1.mono y0.size)) (Nat.le_trans y0.size y1.size) _).trans (ho2.below (Nat.le_trans y0.size y1.size))
  have hg1 : w1.heap.size < w2.heap.size := by rw [ho2.size]; simp
  have hgw : w.heap.size ≤ w2.heap.size := y2.size
  generalize w1.heap.size = g1 at *
  clear ho2 y1 HA y0
  go_upto_region 4 with (refine wpList_store_any rfl 64 _ _ rfl w2.heap.size 0 64 _ [.int .i64 1, .int .i64 4, .int .i64 2, .int .i64 4, .int .i64 2] _ rfl rfl rfl (Bxo.made w2 64 [.int .i64 0, .int .i64 0, .int .i64 0, .int .i64 0, .int .i64 0]) info_n5 (by show 0 + 5 ≤ 5; omega) (by simp [Value.oneCell']) ?_; intro w3 hb3 ho3; have HB3 := Go.Lib.hid hb3; clear hb3)
  have y3 : Below w.heap.size w w3 := (below_alloc y2 y2.size _).trans (ho3.below hgw)
  have HN3 : Hid (Bxo w3 g1 64 (nmL t)) := Go.Lib.hid ((Bxo.alloc HB2.out _).only ho3 (by omega))
  generalize w2.heap.size = g2 at *
  clear HB2 ho3 y2 hgw
  try simp only [Act.put, List.setIfInBounds_toArray, List.set_cons_zero, List.set_cons_succ]
  go_wp2_with fail
  go_loop [5, 8] (fun h i => ∃ (k : Nat) (x : Int), k ≤ 5 ∧ i = .int .i64 k ∧ h = .int .u32 x ∧ Hid (hashL x (bytesN ((numsT t).drop k) (sizesT.drop k)) = q)) (fun h i => 5 - (intOf i).toNat)
  case atStart => exact ⟨0, _, by omega, rfl, rfl, HQ⟩
  case round =>
    obtain ⟨k, x, hk, rfl, rfl, HL⟩ := hrel
    clear HQ
    by_cases hlt : k < 5
    · have ca := HN3.out.cell k (nm_get t k hlt)
      have cb := HB3.out.cell k (sz_get k hlt)
      have hst := bytesN_drop (numsT t) sizesT k hlt hlt
      obtain ⟨n0, n1⟩ := HR.out k hlt
      obtain ⟨s0, s1⟩ := sizes_rng k hlt
      have i1 : (0 : Int) ≤ (k : Int) := by omega
      have i2 : (k : Int) < 5 := by omega
      generalize (numsT t)[k] = n at *
      generalize sizesT[k] = s at *
      generalize hrest : bytesN ((numsT t).drop (k + 1)) (sizesT.drop (k + 1)) = rest at *
      have HRS := Go.Lib.hid hrest
      have HX : Hid (hashL x (beB n s ++ rest) = q) := Go.Lib.hid (by rw [← hst]; exact HL.out)
      have CA := Go.Lib.hid ca
      clear hst hrest HL
      have f1 : IntKind.i64.wrap ((s : Int) - 1) = (s : Int) - 1 := IntWalk.i64_in _ (by omega)
      go_wp2_with fail
      go_loop [5, 9] (fun h i => ∃ (r : Nat) (y : Int), r ≤ 4 ∧ i = .int .i64 ((r : Int) - 1) ∧ h = .int .u32 y ∧ Hid (hashL y (beB n r ++ rest) = q)) (fun h i => (intOf i + 1).toNat)
      case atStart => exact ⟨s, x, s1, rfl, rfl, HX⟩
      case round =>
        obtain ⟨r, y, hr, rfl, rfl, HM⟩ := hrel
        clear HX f1 ca cb
        rcases r with _ | r
        · have hneg : ¬ (0 : Int) ≤ (((0 : Nat) : Int) - 1) := by omega
          go_wp2_with fail
          go_round
          case rel => exact ⟨k + 1, y, by omega, by go_num, rfl, Go.Lib.hid (by rw [HRS.out]; exact HM.out)⟩
          case measure => simp [intOf]; omega
        · have hr1 : (((r + 1 : Nat) : Int) - 1) = (r : Int) := by omega
          rw [hr1]
          have hst := beB_succ n r
          have HY : Hid (hashL y ((n / 256 ^ r % 256) :: (beB n r ++ rest)) = q) := Go.Lib.hid (by have := HM.out; rw [hst] at this; exact this)
          have ca := CA.out
          clear hst HM hr1
          go_wp2_with fail
          clear ca
          go_loop [10, 11] (fun c j => ∃ i : Nat, i ≤ r ∧ j = .int .i64 i ∧ c = .int .i64 (n / 256 ^ i)) (fun c j => r - (intOf j).toNat)
          case atStart => exact ⟨0, by omega, rfl, by rw [show (256 : Int) ^ 0 = 1 from rfl, Int.ediv_one]⟩
          case round =>
            obtain ⟨i, hi, rfl, rfl⟩ := hrel
            have hdn := div_pow_succ n i n0
            have hdc := div_pow_rng n i n0 n1
            by_cases hil : i < r
            · have hnx := div_pow_rng n (i + 1) n0 n1
              rw [hdn] at hnx
              have HD := Go.Lib.hid hdn
              have e1 : Int.tdiv (n / 256 ^ i) 256 = n / 256 ^ i / 256 := Int.tdiv_eq_ediv_of_nonneg hdc.1
              clear hdn
              generalize n / 256 ^ i = c at *
              have e2 : IntKind.i64.wrap (Int.tdiv c 256) = c / 256 := by rw [e1]; exact IntWalk.i64_in _ (by omega)
              have e3 : IntKind.i64.wrap ((i : Int) + 1) = (i : Int) + 1 := IntWalk.i64_in _ (by omega)
              have j2 : (i : Int) < (r : Int) := by omega
              have j1 : (0 : Int) ≤ (i : Int) := by omega
              clear HY
              go_wp2_with fail
              go_round
              case rel => exact ⟨i + 1, by omega, by go_num, by rw [HD.out]⟩
              case measure => simp [intOf]; omega
            · obtain rfl : i = r := by omega
              have e1 : Int.tmod (n / 256 ^ i) 256 = n / 256 ^ i % 256 := Int.tmod_eq_emod_of_nonneg hdc.1
              clear hdn
              generalize n / 256 ^ i = c at *
              have e2 : IntKind.i64.wrap (Int.tmod c 256) = c % 256 := by rw [e1]; exact IntWalk.i64_in _ (by omega)
              have e4 : IntKind.u32.wrap (c % 256) = c % 256 := IntWalk.u32_in _ (by omega)
              have e5 : IntKind.i64.wrap ((i : Int) - 1) = (i : Int) - 1 := IntWalk.i64_in _ (by omega)
              have hni : ¬ (i : Int) < (i : Int) := by omega
              go_wp2_with fail
              go_round
              case rel => exact ⟨i, hashS y (c % 256), by omega, rfl, rfl, Go.Lib.hid (by have := HY.out; rwa [hashL_cons] at this)⟩
              case measure => simp [intOf]
    · obtain rfl : k = 5 := by omega
      go_wp2
      go_ret
      exact ⟨by have := HL.out; rw [← this]; rfl, y3⟩
end Go.Proofs.Ytgapcfplicgmaaa
