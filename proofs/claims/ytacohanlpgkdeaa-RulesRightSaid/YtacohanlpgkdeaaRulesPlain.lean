/- Rules: plain mathematics. -/
import Derived.Test.YtacohanlpgkdeaaRoutePlain
import Derived.Test.YtacohanlpgkdeaaTp0
namespace Go.Proofs.Ytacohanlpgkdeaa
set_option linter.unusedVariables false

structure Ru where
  fr : Int
  to : Int
  proto : Int
  src : Int
  dst : Int
  sbits : Int
  dbits : Int
  lo : Int
  hi : Int
  act : Int
abbrev ru0 : Ru := ⟨0, 0, 0, 0, 0, 0, 0, 0, 0, 0⟩
structure RngRu (r : Ru) : Prop where
  src : 0 ≤ r.src ∧ r.src ≤ 4294967295
  dst : 0 ≤ r.dst ∧ r.dst ≤ 4294967295
structure OkU (r : Ru) : Prop where
  fr : -1 ≤ r.fr ∧ r.fr ≤ 7
  to : -1 ≤ r.to ∧ r.to ≤ 7
  proto : 0 ≤ r.proto ∧ r.proto ≤ 255
  sbits : 0 ≤ r.sbits ∧ r.sbits ≤ 32
  dbits : 0 ≤ r.dbits ∧ r.dbits ≤ 32
  lo : 0 ≤ r.lo ∧ r.lo ≤ 65535
  hi : 0 ≤ r.hi ∧ r.hi ≤ 65535
  span : r.lo ≤ r.hi
  act : r.act = 1 ∨ r.act = 2
def btw (a x b : Int) : Bool := decide (a ≤ x) && decide (x ≤ b)
theorem btw_iff (a x b : Int) : btw a x b = true ↔ a ≤ x ∧ x ≤ b := by unfold btw; rw [Bool.and_eq_true, decide_eq_true_eq, decide_eq_true_eq]
def okU (r : Ru) : Bool := btw (-1) r.fr 7 && (btw (-1) r.to 7 && (btw 0 r.proto 255 && (btw 0 r.sbits 32 && (btw 0 r.dbits 32 && (btw 0 r.lo 65535 && (btw 0 r.hi 65535 && (decide (r.lo ≤ r.hi) && (r.act == 1 || r.act == 2))))))))
theorem okU_iff (r : Ru) : okU r = true ↔ OkU r := by
  unfold okU
  simp only [Bool.and_eq_true, btw_iff, decide_eq_true_eq, Bool.or_eq_true, beq_iff_eq]
  exact ⟨fun ⟨a, b, c, d, e, f, g, h, i⟩ => ⟨a, b, c, d, e, f, g, h, i⟩, fun ⟨a, b, c, d, e, f, g, h, i⟩ => ⟨a, b, c, d, e, f, g, h, i⟩⟩
theorem okU_not {r : Ru} {q : Bool} (hq : okU r = q) (h : ¬ OkU r) : q = false := by
  cases q
  · rfl
  · exact absurd ((okU_iff r).1 hq) h
def rightU (l : List Ru) : Bool := decide (l.length ≤ 64) && l.all okU
theorem rightU_iff (l : List Ru) : rightU l = true ↔ l.length ≤ 64 ∧ ∀ r ∈ l, okU r = true := by
  unfold rightU
  rw [Bool.and_eq_true, decide_eq_true_eq, List.all_eq_true]
/-- its zones fit. -/
def zoneU (r : Ru) (f t : Int) : Bool := (r.fr == -1 || r.fr == f) && (r.to == -1 || r.to == t)
def portU (r : Ru) (tp : Tp) : Bool := (r.proto == 0 || r.proto == tp.proto) && btw r.lo tp.dport r.hi
def fitsU (r : Ru) (f t : Int) (tp : Tp) : Bool := zoneU r f t && (portU r tp && (inN tp.src r.src r.sbits && inN tp.dst r.dst r.dbits))
def firstU (p : Ru → Bool) : List Ru → Int → Int × Int
  | [], _ => (1, -1)
  | r :: rs, k => if p r then (r.act, k) else firstU p rs (k + 1)
def askU (l : List Ru) (f t : Int) (tp : Tp) : Int × Int := if rightU l then firstU (fitsU · f t tp) l 0 else (1, -1)
def atU (l : List Ru) (i : Nat) : Ru := l.getD i ru0
theorem atU_get {l : List Ru} {i : Nat} (h : i < l.length) : atU l i = l[i] := by unfold atU; rw [List.getD_eq_getElem?_getD, List.getElem?_eq_getElem h]; rfl
theorem first_at (p : Ru → Bool) : ∀ (l : List Ru) (k : Int) (i : Nat), i < l.length → p (atU l i) = true → (∀ j, j < i → p (atU l j) = false) → firstU p l k = ((atU l i).act, k + i)
  | [], k, i, h, _, _ => by simp at h
  | r :: rs, k, 0, _, h, _ => by
    have h' : p r = true := h
    unfold firstU
    rw [if_pos h']
    show (r.act, k) = (r.act, k + ((0 : Nat) : Int))
    simp
  | r :: rs, k, i + 1, hi, h, hn => by
    have h0 : p r = false := hn 0 (by omega)
    unfold firstU
    rw [if_neg (by rw [h0]; simp), first_at p rs (k + 1) i (by simpa using hi) h (fun j hj => hn (j + 1) (by omega))]
    show ((atU rs i).act, _) = ((atU rs i).act, _)
    rw [show k + 1 + (i : Int) = k + ((i + 1 : Nat) : Int) by omega]
theorem first_no (p : Ru → Bool) : ∀ (l : List Ru) (k : Int), (∀ j, j < l.length → p (atU l j) = false) → firstU p l k = (1, -1)
  | [], _, _ => rfl
  | r :: rs, k, h => by
    have h0 : p r = false := h 0 (by simp)
    unfold firstU
    rw [if_neg (by rw [h0]; simp)]
    exact first_no p rs (k + 1) (fun j hj => h (j + 1) (by simpa using hj))
/-- what a list says, with its place. -/
theorem first_cases (p : Ru → Bool) (l : List Ru) : (∃ i, i < l.length ∧ p (atU l i) = true ∧ (∀ j, j < i → p (atU l j) = false) ∧ ∀ k, firstU p l k = ((atU l i).act, k + i)) ∨ ((∀ j, j < l.length → p (atU l j) = false) ∧ ∀ k, firstU p l k = (1, -1)) := by
  by_cases h : ∃ i, i < l.length ∧ p (atU l i) = true
  · left
    obtain ⟨i, hi, hp, hm⟩ : ∃ i, i < l.length ∧ p (atU l i) = true ∧ ∀ j, j < i → p (atU l j) = false := by
      obtain ⟨n, h1, h2⟩ := h
      induction n using Nat.strongRecOn with
      | _ n ih =>
        by_cases hx : ∃ j, j < n ∧ p (atU l j) = true
        · obtain ⟨j, hj, hp⟩ := hx
          exact ih j hj (by omega) hp
        · refine ⟨n, h1, h2, fun j hj => ?_⟩
          cases hp : p (atU l j)
          · rfl
          · exact absurd ⟨j, hj, hp⟩ hx
    exact ⟨i, hi, hp, hm, fun k => first_at p l k i hi hp hm⟩
  · right
    have hn : ∀ j, j < l.length → p (atU l j) = false := fun j hj => by
      cases hp : p (atU l j)
      · rfl
      · exact absurd ⟨j, hj, hp⟩ h
    exact ⟨hn, fun k => first_no p l k hn⟩
theorem ask_at {l : List Ru} {f t : Int} {tp : Tp} (hr : rightU l = true) {i : Nat} (hi : i < l.length) (h : fitsU (atU l i) f t tp = true) (hn : ∀ j, j < i → fitsU (atU l j) f t tp = false) : askU l f t tp = ((atU l i).act, (i : Int)) := by
  unfold askU
  rw [if_pos hr, first_at _ l 0 i hi h hn, Int.zero_add]
theorem ask_no {l : List Ru} {f t : Int} {tp : Tp} (hn : ∀ j, j < l.length → fitsU (atU l j) f t tp = false) : askU l f t tp = (1, -1) := by
  unfold askU
  rw [first_no _ l 0 hn]
  simp
theorem ask_wrong {l : List Ru} {f t : Int} {tp : Tp} (h : rightU l = false) : askU l f t tp = (1, -1) := by
  unfold askU
  rw [h, if_neg (by simp)]
theorem right_behind {l : List Ru} {r : Ru} (h : rightU (l ++ [r]) = true) : rightU l = true ∧ rightU (r :: l) = true := by
  rw [rightU_iff] at h
  rw [List.length_append, List.length_singleton] at h
  refine ⟨(rightU_iff l).2 ⟨by omega, fun x hx => h.2 x (List.mem_append_left _ hx)⟩, (rightU_iff _).2 ⟨by rw [List.length_cons]; exact h.1, fun x hx => ?_⟩⟩
  rcases List.mem_cons.1 hx with rfl | hx
  · exact h.2 x (by simp)
  · exact h.2 x (List.mem_append_left _ hx)
theorem atU_left {l k : List Ru} {i : Nat} (h : i < l.length) : atU (l ++ k) i = atU l i := by
  unfold atU
  rw [List.getD_eq_getElem?_getD, List.getD_eq_getElem?_getD, List.getElem?_append_left h]
theorem atU_last (l : List Ru) (r : Ru) : atU (l ++ [r]) l.length = r := by
  unfold atU
  rw [List.getD_eq_getElem?_getD, List.getElem?_append_right (Nat.le_refl _), Nat.sub_self]
  rfl
/-- behind all rules, and ahead of them. -/
structure BehindU (l : List Ru) (r : Ru) (f t : Int) (tp : Tp) (a b c : Int × Int) (fits : Bool) : Prop where
  left : 0 ≤ a.2 → b = a
  right : a.2 < 0 → a = (1, -1) ∧ (decide (0 ≤ b.2) = fits)
  yes : fits = true → c = (r.act, 0)
  no : fits = false → c.1 = a.1 ∧ ((0 ≤ a.2 ∧ c.2 = a.2 + 1) ∨ (a.2 = -1 ∧ c.2 = -1))
theorem behindU {l : List Ru} {r : Ru} {f t : Int} {tp : Tp} (h : rightU (l ++ [r]) = true) : BehindU l r f t tp (askU l f t tp) (askU (l ++ [r]) f t tp) (askU (r :: l) f t tp) (fitsU r f t tp) := by
  obtain ⟨h1, h2⟩ := right_behind h
  have hc0 : fitsU r f t tp = true → askU (r :: l) f t tp = (r.act, 0) := fun e => by
    unfold askU firstU
    rw [if_pos h2, if_pos e]
  have hc1 : fitsU r f t tp = false → askU (r :: l) f t tp = firstU (fitsU · f t tp) l (0 + 1) := fun e => by
    unfold askU
    rw [if_pos h2]
    show (if fitsU r f t tp then _ else _) = _
    rw [e, if_neg (by simp)]
  rcases first_cases (fitsU · f t tp) l with ⟨i, hi, hp, hm, hf⟩ | ⟨hn, hf⟩
  · have ha : askU l f t tp = ((atU l i).act, (i : Int)) := ask_at h1 hi hp hm
    have hb : askU (l ++ [r]) f t tp = ((atU l i).act, (i : Int)) := by
      rw [← atU_left (k := [r]) hi]
      exact ask_at h (by rw [List.length_append]; omega) (by rw [atU_left hi]; exact hp) (fun j hj => by rw [atU_left (by omega)]; exact hm j hj)
    rw [ha, hb]
    refine ⟨fun _ => rfl, fun e => ?_, hc0, fun e => ?_⟩
    · have e' : (i : Int) < 0 := e
      omega
    · rw [hc1 e, hf]
      exact ⟨rfl, .inl ⟨by show (0 : Int) ≤ i; omega, by show 0 + 1 + (i : Int) = i + 1; omega⟩⟩
  · have ha : askU l f t tp = (1, -1) := ask_no hn
    rw [ha]
    refine ⟨fun e => ?_, fun _ => ⟨rfl, ?_⟩, hc0, fun e => ?_⟩
    · have e' : (0 : Int) ≤ -1 := e
      omega
    · cases hfit : fitsU r f t tp
      · rw [ask_no (l := l ++ [r]) (fun j hj => by
          rw [List.length_append, List.length_singleton] at hj
          rcases Nat.lt_or_ge j l.length with q | q
          · rw [atU_left q]; exact hn j q
          · have : j = l.length := by omega
            rw [this, atU_last]; exact hfit)]
        rfl
      · rw [ask_at h (i := l.length) (by rw [List.length_append]; simp) (by rw [atU_last]; exact hfit) (fun j hj => by rw [atU_left hj]; exact hn j hj)]
        show decide ((0 : Int) ≤ (l.length : Int)) = true
        rw [decide_eq_true_eq]
        omega
    · rw [hc1 e, hf]
      exact ⟨rfl, .inr ⟨rfl, rfl⟩⟩
/-- the places of the rules whose zones fit. -/
def placesU (l : List Ru) (f t : Int) (k : Nat) : List Nat := (List.range k).filter fun i => zoneU (atU l i) f t
def pairsU (l : List Ru) (f t : Int) : List Nat := if rightU l then placesU l f t l.length else []
theorem places_yes {l : List Ru} {f t : Int} {k : Nat} (h : zoneU (atU l k) f t = true) : placesU l f t (k + 1) = placesU l f t k ++ [k] := by
  unfold placesU
  rw [List.range_succ, List.filter_append]
  simp [h]
theorem places_no {l : List Ru} {f t : Int} {k : Nat} (h : zoneU (atU l k) f t = false) : placesU l f t (k + 1) = placesU l f t k := by
  unfold placesU
  rw [List.range_succ, List.filter_append]
  simp [h]
theorem places_len (l : List Ru) (f t : Int) (k : Nat) : (placesU l f t k).length ≤ k := by
  unfold placesU
  have := List.length_filter_le (fun i => zoneU (atU l i) f t) (List.range k)
  simpa using this
theorem places_pre (l : List Ru) (f t : Int) {k m : Nat} (h : k ≤ m) : ∃ s, placesU l f t m = placesU l f t k ++ s := by
  unfold placesU
  obtain ⟨d, rfl⟩ := Nat.exists_eq_add_of_le h
  rw [List.range_add, List.filter_append]
  exact ⟨_, rfl⟩
/-- any zones, protocols, nets, ports. -/
theorem fits_any {f t : Int} {tp : Tp} (hr : RngTp tp) (p a : Int) : fitsU ⟨-1, -1, p, 0, 0, 0, 0, 0, 65535, a⟩ f t tp = ((p == 0 || p == tp.proto) && btw 0 tp.dport 65535) := by
  unfold fitsU zoneU portU
  dsimp only
  rw [in_none ⟨hr.s0, hr.s1⟩ (by decide), in_none ⟨hr.d0, hr.d1⟩ (by decide)]
  simp
end Go.Proofs.Ytacohanlpgkdeaa
