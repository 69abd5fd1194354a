/- Rows of elements of several cells: of a call's own, read, appended to. -/
import Derived.Test.YtacohanlpgkdeaaBig2
import Derived.Test.YtacohanlpgkdeaaMem
namespace Go.Proofs.Ytacohanlpgkdeaa
open Go.ChangeShapes Go.WideShapes Go.ChangeAt Go.RowKit
set_option linter.unusedVariables false
set_option linter.unusedSimpArgs false

section
variable {α : Type} (L : α → List Value) (k : Nat) (hL : ∀ x, (L x).length = k)
include hL
theorem flat_len : ∀ es : List α, (es.flatMap L).length = es.length * k
  | [] => by simp
  | e :: t => by simp only [List.flatMap_cons, List.length_append, hL, flat_len t, List.length_cons]; rw [Nat.succ_mul, Nat.add_comm]
theorem flat_take : ∀ (es : List α) (j : Nat), (es.flatMap L).take (j * k) = (es.take j).flatMap L
  | [], j => by simp
  | e :: t, 0 => by simp
  | e :: t, j + 1 => by
    rw [List.flatMap_cons, List.take_succ_cons, List.flatMap_cons, List.take_append, hL, List.take_of_length_le (by rw [hL, Nat.succ_mul]; omega), ← flat_take t j]
    congr 2
    rw [Nat.succ_mul]; omega
theorem flat_drop : ∀ (es : List α) (j : Nat), (es.flatMap L).drop (j * k) = (es.drop j).flatMap L
  | [], j => by simp
  | e :: t, 0 => by simp
  | e :: t, j + 1 => by
    rw [List.flatMap_cons, List.drop_succ_cons, List.drop_append, hL, List.drop_eq_nil_of_le (by rw [hL, Nat.succ_mul]; omega), List.nil_append, ← flat_drop t j]
    congr 1
    rw [Nat.succ_mul]; omega
theorem flat_get (es : List α) (j i : Nat) (hj : j < es.length) (hi : i < k) : (es.flatMap L)[j * k + i]? = (L es[j])[i]? := by
  rw [← List.getElem?_drop, flat_drop L k hL, List.drop_eq_getElem_cons hj, List.flatMap_cons, List.getElem?_append_left (by rw [hL]; exact hi)]
end
/-- cells replaced from a place on. -/
theorem set_eq {α : Type} : ∀ (l : List α) (o : Nat) (v : α), o < l.length → l.set o v = l.take o ++ v :: l.drop (o + 1)
  | [], _, _, h => by simp at h
  | a :: t, 0, v, _ => by simp
  | a :: t, o + 1, v, h => by simp [set_eq t o v (by simpa using h)]
theorem spl_eq : ∀ (vs cs : List Value) (o : Nat), o + vs.length ≤ cs.length → spl cs o vs = cs.take o ++ vs ++ cs.drop (o + vs.length)
  | [], cs, o, _ => by simp [spl]
  | v :: r, cs, o, h => by
    simp only [List.length_cons] at h
    have ho : o < cs.length := by omega
    rw [spl, spl_eq r _ _ (by simp; omega), set_eq cs o v ho]
    have e1 : (cs.take o ++ v :: cs.drop (o + 1)).take (o + 1) = cs.take o ++ [v] := by
      rw [List.take_append, List.take_of_length_le (by rw [List.length_take]; omega), List.length_take, Nat.min_eq_left (by omega), show o + 1 - o = 1 by omega]
      rfl
    have e2 : (cs.take o ++ v :: cs.drop (o + 1)).drop (o + 1 + r.length) = cs.drop (o + (v :: r).length) := by
      rw [List.drop_append, List.length_take, Nat.min_eq_left (by omega), List.drop_eq_nil_of_le (by rw [List.length_take]; omega), List.nil_append]
      rw [show o + 1 + r.length - o = r.length + 1 by omega, List.drop_succ_cons, List.drop_drop]
      congr 1; simp; omega
    rw [e1, e2]; simp
theorem spl_take (vs cs : List Value) (o n : Nat) (h : o + vs.length ≤ n) (hn : n ≤ cs.length) : (spl cs o vs).take n = spl (cs.take n) o vs := by
  rw [spl_eq vs cs o (by omega), spl_eq vs (cs.take n) o (by rw [List.length_take]; omega)]
  rw [List.take_append, List.take_of_length_le (by rw [List.length_append, List.length_take]; omega), List.length_append, List.length_take, Nat.min_eq_left (by omega), List.take_take, Nat.min_eq_left (by omega), List.drop_take]
theorem spl_flat {α : Type} (L : α → List Value) (k : Nat) (hL : ∀ x, (L x).length = k) (es : List α) (j : Nat) (e : α) (hj : j < es.length) : spl (es.flatMap L) (j * k) (L e) = (es.set j e).flatMap L := by
  have hl := flat_len L k hL es
  have h1 : j * k + k ≤ es.length * k := by rw [← Nat.succ_mul]; exact Nat.mul_le_mul_right k hj
  rw [spl_eq _ _ _ (by rw [hL, hl]; exact h1), hL, set_eq es j e hj, List.flatMap_append, List.flatMap_cons, flat_take L k hL, ← Nat.succ_mul, flat_drop L k hL, List.append_assoc]
/-- a row of the call's own, opened; a store into it. -/
theorem own_open {w : World} {base : Nat} {e : TypeId} {size g n c : Nat} {xs : List Value} (h : w.ownsRow base e size (.slice (some ⟨g, 0, none⟩) n c) n xs) :
    ∃ cur, Bxo w g e cur ∧ cur.length = c * size ∧ cur.take (n * size) = xs ∧ base ≤ g ∧ n ≤ c ∧ c ≤ maxLen ∧ xs.length = n * size := by
  rcases h.2 with ⟨h', _⟩ | ⟨g', cap, cur, hv, hb, hh, hn, hm, hs, ht⟩
  · cases h'
  · injection hv with h1 h2 h3
    subst h3
    injection h1 with h1
    injection h1 with h1
    subst h1
    exact ⟨cur.toList, by unfold Bxo; simpa using hh, by simpa using hs, by simpa using ht, hb, hn, hm, h.1⟩
theorem own_shut {w : World} {base : Nat} {e : TypeId} {size g n c : Nat} {xs cur : List Value} (hb : Bxo w g e cur) (h1 : cur.length = c * size) (h2 : cur.take (n * size) = xs) (h3 : base ≤ g) (h4 : n ≤ c) (h5 : c ≤ maxLen) (h6 : xs.length = n * size) :
    w.ownsRow base e size (.slice (some ⟨g, 0, none⟩) n c) n xs :=
  ⟨h6, .inr ⟨g, c, cur.toArray, rfl, h3, hb, h4, h5, by simpa using h1, by simpa using h2⟩⟩
theorem own_keep {w w' : World} {base : Nat} {e : TypeId} {size g n c : Nat} {xs : List Value} (h : w.ownsRow base e size (.slice (some ⟨g, 0, none⟩) n c) n xs) (hh : w'.heap[g]? = w.heap[g]?) : w'.ownsRow base e size (.slice (some ⟨g, 0, none⟩) n c) n xs := by
  obtain ⟨cur, a1, a2, a3, a4, a5, a6, a7⟩ := own_open h
  exact own_shut (hh.trans a1) a2 a3 a4 a5 a6 a7
theorem own_spl {w w' : World} {base : Nat} {e : TypeId} {size g n c : Nat} {xs cur vs : List Value} {o : Nat} (h : w.ownsRow base e size (.slice (some ⟨g, 0, none⟩) n c) n xs) (hc : Bxo w g e cur) (ho : o + vs.length ≤ n * size) (hb : Bxo w' g e (spl cur o vs)) :
    w'.ownsRow base e size (.slice (some ⟨g, 0, none⟩) n c) n (spl xs o vs) := by
  obtain ⟨cur', a1, a2, a3, a4, a5, a6, a7⟩ := own_open h
  have e : cur' = cur := by
    have := a1.symm.trans hc
    simpa using this
  subst e
  have hle : n * size ≤ cur'.length := by rw [a2]; exact Nat.mul_le_mul_right size a5
  exact own_shut hb (by rw [spl_length]; exact a2) (by rw [spl_take vs cur' o _ ho hle, a3]) a4 a5 a6 (by rw [spl_length]; exact a7)
/-- the slice at A reads as these cells. -/
def RdC (w : World) (A : Option Addr) (cs : List Value) : Prop := cs = [] ∨ ∃ ad, A = some ad ∧ ∀ (j : Nat) (u : Value), cs[j]? = some u → w.cell? (ad.add j) = some u
theorem RdC.keep {w w' : World} {A : Option Addr} {cs : List Value} (h : RdC w A cs) (hb : Below w.heap.size w w') : RdC w' A cs := by
  rcases h with h | ⟨ad, e, hc⟩
  · exact .inl h
  · refine .inr ⟨ad, e, fun j u hj => ?_⟩
    have := hc j u hj
    rw [← this]
    exact hb.cell (World.block_lt_of_cell? w _ this)
theorem wpList_append_rdK {P : Program} {w : World} {ops : Array Oper} {rest : List Oper} {o : Oper} {a : Act} {Q : Exit → Act → World → Prop} (hgd : o.guard = none) (s x : Operand) (t : TypeId)
    (ho : o.op = .call { callee := .builtin .append, args := #[s, x], argTypes := #[t, t] })
    (base : Nat) (e : TypeId) (i : TypeInfo) (z : Value) (k bytes : Nat) (ht : P.underlying t = some (.slice e)) (hi : P.info? e = some i) (hz : i.zero = some z)
    (hsize : i.size = k) (hby : i.bytes = bytes) (hzs : z.cells.size = k) (hk : 0 < k)
    (v : Value) (n : Nat) (xs : List Value) (hs : a.eval s = v) (hown : w.ownsRow base e k v n xs)
    (A : Option Addr) (m c : Nat) (news : List Value) (hx : a.eval x = .slice A m c) (hm : news.length = m * k) (hc : A = none → c = 0 ∧ m = 0) (hr : RdC w A news) (h1 : ∀ u ∈ news, u.oneCell' = true)
    (h63 : n + m ≤ maxLen) (hbytes : (n + m) * bytes ≤ 140737488355328) (hbase : base ≤ w.heap.size)
    (h : ∀ v' w', w'.ownsRow base e k v' (n + m) (xs ++ news) → w.grownBy w' v.ownBlock → (v'.ownBlock = v.ownBlock ∨ v'.ownBlock = some w.heap.size) → wpList P ops Q rest (a.put o.dst v') w') :
    wpList P ops Q (o :: rest) a w := by
  rcases A with _ | ad
  · obtain ⟨rfl, rfl⟩ := hc rfl
    have hn : news = [] := List.eq_nil_of_length_eq_zero (by simpa using hm)
    subst hn
    exact wpList_append_own_none hgd s x t ho base e i k ht hi v n xs hs hown hx (h v w (by simpa using hown) (World.grownBy.refl w _) (.inl rfl))
  · refine wpList_append_own_at w hgd s x t ho base e i z k bytes ht hi hz hsize hby hzs hk v n xs hs hown ad m c news hx (by omega) ?_ h1 h63 hbytes hbase (fun v' w' g1 g2 _ g4 => h v' w' g1 g2 g4)
    intro j u hj
    rcases hr with h | ⟨ad', h', hcell⟩
    · subst h; simp at hj
    · cases h'; exact hcell j u hj
theorem wpList_copy_rdK {P : Program} {w : World} {ops : Array Oper} {rest : List Oper} {o : Oper} {a : Act} {Q : Exit → Act → World → Prop} (hgd : o.guard = none) (s x : Operand) (t : TypeId)
    (ho : o.op = .call { callee := .builtin .append, args := #[s, x], argTypes := #[t, t] })
    (e : TypeId) (i : TypeInfo) (z : Value) (k bytes : Nat) (ht : P.underlying t = some (.slice e)) (hi : P.info? e = some i) (hz : i.zero = some z)
    (hsize : i.size = k) (hby : i.bytes = bytes) (hzs : z.cells.size = k) (hk : 0 < k) (hs : a.eval s = .slice (some ⟨w.heap.size, 0, none⟩) 0 0)
    (A : Option Addr) (m c : Nat) (news : List Value) (hx : a.eval x = .slice A m c) (hm : news.length = m * k) (hc : A = none → c = 0 ∧ m = 0) (hr : RdC w A news) (h1 : ∀ u ∈ news, u.oneCell' = true)
    (h63 : m ≤ maxLen) (hbytes : m * bytes ≤ 140737488355328)
    (h : ∀ v' w', w'.ownsRow w.heap.size e k v' m news → Below w.heap.size w w' → wpList P ops Q rest (a.put o.dst v') w') :
    wpList P ops Q (o :: rest) a (w.alloc (.cells #[] e)) := by
  refine wpList_append_rdK hgd s x t ho w.heap.size e i z k bytes ht hi hz hsize hby hzs hk _ 0 [] hs (World.ownsRow_made w #[] 0 (Nat.le_refl _) (by unfold maxLen; omega) (by simp)) A m c news hx hm hc (hr.keep ((Below.refl _ _).alloc (Nat.le_refl _) _)) h1 (by simpa using h63) (by simpa using hbytes) (by simp) ?_
  intro v' w' hown hg hat
  rw [Nat.zero_add, List.nil_append] at hown
  exact h v' w' hown (((Below.refl _ _).alloc (Nat.le_refl _) _).grown hg (by simp) (fun k hk => by simp [Value.ownBlock] at hk; omega))
/-- a copy of a row. -/
def CopiedK (w0 : World) (e : TypeId) (k n : Nat) (cs : List Value) (x : Ending) (w : World) : Prop := ∃ A c, x = .returned (.slice A n c) ∧ w.ownsRow w0.heap.size e k (.slice A n c) n cs ∧ Below w0.heap.size w0 w
theorem own_slice {w : World} {base : Nat} {e : TypeId} {k : Nat} {v : Value} {n : Nat} {xs : List Value} (h : w.ownsRow base e k v n xs) : ∃ A c, v = .slice A n c := by
  rcases h.2 with ⟨rfl, rfl⟩ | ⟨g, cap, cur, rfl, _⟩
  · exact ⟨_, _, rfl⟩
  · exact ⟨_, _, rfl⟩
theorem own_none (w : World) (base : Nat) (e : TypeId) (k : Nat) : w.ownsRow base e k (.slice none 0 0) 0 [] := ⟨by simp, .inl ⟨rfl, rfl⟩⟩
/-- one block may have turned, others were added. -/
structure Gro (g : Nat) (w w' : World) : Prop where
  os : w'.os = w.os
  tape : w'.tape = w.tape
  output : w'.output = w.output
  size : w.heap.size ≤ w'.heap.size
  block : ∀ k, k < w.heap.size → k ≠ g → w'.heap[k]? = w.heap[k]?
section
variable {g B : Nat} {w w' w'' : World} {ty : TypeId} {cs : List Value}
theorem Gro.refl : Gro g w w := ⟨rfl, rfl, rfl, Nat.le_refl _, fun _ _ _ => rfl⟩
theorem Gro.trans (h : Gro g w w') (k : Gro g w' w'') : Gro g w w'' := ⟨k.os.trans h.os, k.tape.trans h.tape, k.output.trans h.output, Nat.le_trans h.size k.size, fun i hi hg => (k.block i (Nat.lt_of_lt_of_le hi h.size) hg).trans (h.block i hi hg)⟩
theorem Only.gro (h : Only g w w') : Gro g w w' := ⟨h.os, h.tape, h.output, Nat.le_of_eq h.size.symm, fun k _ hk => h.block k hk⟩
theorem gro_below (h : Below w.heap.size w w') : Gro g w w' := ⟨h.os, h.tape, h.output, h.size, fun k hk _ => h.block k hk⟩
theorem gro_grown (h : w.grownBy w' (some g)) : Gro g w w' := ⟨h.os, h.tape, h.output, h.size, fun k hk hg => h.block k hk (fun e => hg (by injection e))⟩
theorem Gro.below (h : Gro g w w') (hB : B ≤ g) (hs : B ≤ w.heap.size) : Below B w w' := ⟨h.os, h.tape, h.output, h.size, fun k hk => h.block k (by omega) (by omega)⟩
theorem Bxo.gro {g' : Nat} (h : Bxo w g' ty cs) (hg : Gro g w w') (hne : g' ≠ g) : Bxo w' g' ty cs := (hg.block g' h.lt hne).trans h
end
def blk (A : Option Addr) : Option Nat := A.map Addr.block
theorem own_none_any {w w' : World} {base base' : Nat} {e : TypeId} {size n c : Nat} {xs : List Value} (h : w.ownsRow base e size (.slice none n c) n xs) : w'.ownsRow base' e size (.slice none n c) n xs := by
  refine ⟨h.1, ?_⟩
  rcases h.2 with h | ⟨g, cap, cur, hv, _⟩
  · exact .inl h
  · cases hv
theorem own_addr {w : World} {base : Nat} {e : TypeId} {size n c : Nat} {A : Option Addr} {xs : List Value} (h : w.ownsRow base e size (.slice A n c) n xs) : (A = none ∧ n = 0 ∧ c = 0) ∨ ∃ g, A = some ⟨g, 0, none⟩ ∧ base ≤ g ∧ g < w.heap.size := by
  rcases h.2 with ⟨h, h'⟩ | ⟨g, cap, cur, hv, hb, hh, _⟩
  · injection h with a b c
    exact .inl ⟨a, h', c⟩
  · injection hv with a b c
    exact .inr ⟨g, a, hb, (Array.getElem?_eq_some_iff.1 hh).1⟩
theorem own_keepA {w w' : World} {base : Nat} {e : TypeId} {size n c : Nat} {A : Option Addr} {xs : List Value} (h : w.ownsRow base e size (.slice A n c) n xs) (hk : ∀ g, blk A = some g → w'.heap[g]? = w.heap[g]?) : w'.ownsRow base e size (.slice A n c) n xs := by
  rcases own_addr h with ⟨rfl, _⟩ | ⟨g, rfl, _⟩
  · exact own_none_any h
  · exact own_keep h (hk g rfl)
theorem own_base {w : World} {base base' : Nat} {e : TypeId} {size n c : Nat} {A : Option Addr} {xs : List Value} (h : w.ownsRow base e size (.slice A n c) n xs) (hb : base' ≤ base) : w.ownsRow base' e size (.slice A n c) n xs := by
  refine ⟨h.1, ?_⟩
  rcases h.2 with h | ⟨g, cap, cur, hv, h1, h2⟩
  · exact .inl h
  · exact .inr ⟨g, cap, cur, hv, Nat.le_trans hb h1, h2⟩
theorem own_cap {w : World} {base : Nat} {e : TypeId} {size n c : Nat} {A : Option Addr} {xs : List Value} (h : w.ownsRow base e size (.slice A n c) n xs) : n ≤ c ∧ c ≤ maxLen := by
  rcases h.2 with ⟨h, h'⟩ | ⟨g, cap, cur, hv, hb, hh, h1, h2, _⟩
  · injection h with a b c'; subst c'; subst h'; exact ⟨Nat.le_refl _, by unfold maxLen; omega⟩
  · injection hv with a b c'; subst c'; exact ⟨h1, h2⟩
theorem own_cells {w : World} {base : Nat} {e : TypeId} {size g n c : Nat} {xs : List Value} (h : w.ownsRow base e size (.slice (some ⟨g, 0, none⟩) n c) n xs) (j : Nat) (hj : j < n * size) : w.cell? ⟨g, j, none⟩ = xs[j]? := h.cellAt j hj
theorem ownBlock_blk (A : Option Addr) (n c : Nat) : (Value.slice A n c).ownBlock = blk A := by cases A <;> rfl
theorem add_at (ad : Addr) (k i : Nat) (h : 0 < i) : ad.add (k + i) = { block := (ad.add k).block, off := (ad.add k).off + i } := by
  unfold Addr.add
  by_cases hk : k = 0
  · subst hk; simp [Nat.ne_of_gt h]
  · simp [hk, Nat.add_assoc]
theorem at_off {w : World} {ad : Addr} {k : Nat} {v : Value} (i : Nat) (h : w.cell? (ad.add (k + i)) = some v) (hi : 0 < i) : w.cell? { block := (ad.add k).block, off := (ad.add k).off + i } = some v := by
  rw [← add_at ad k i hi]; exact h
/- a pool as a value, and in memory. -/
theorem add_add (ad : Addr) (k j : Nat) : (ad.add k).add j = ad.add (k + j) := by
  by_cases h : j = 0
  · subst h; simp [Addr.add]
  · rw [add_at ad k j (by omega)]; unfold Addr.add; simp [h]
theorem list_cells {w : World} {ad : Addr} {cs : List Value} (h : ∀ j (hj : j < cs.length), w.cell? (ad.add j) = some cs[j]) : ∀ j v, cs[j]? = some v → w.cell? (ad.add j) = some v := fun j v hv => by
  obtain ⟨hj, rfl⟩ := List.getElem?_eq_some_iff.1 hv
  exact h j hj
/-- a row that was made: its elements are all nothing. -/
theorem flat_made {α : Type} (L : α → List Value) (k : Nat) (hL : ∀ x, (L x).length = k) (hk : 0 < k) (e0 : α) (m : Nat) : (madeCells (L e0).toArray (m * k)).toList = (List.replicate m e0).flatMap L := by
  unfold madeCells
  refine List.ext_getElem? fun j => ?_
  by_cases hj : j < m * k
  · have h1 : j / k < m := (Nat.div_lt_iff_lt_mul hk).2 hj
    have h2 : j % k < k := Nat.mod_lt _ hk
    have h3 := flat_get L k hL (List.replicate m e0) (j / k) (j % k) (by simpa using h1) h2
    rw [show j / k * k + j % k = j by rw [Nat.mul_comm]; exact Nat.div_add_mod j k] at h3
    rw [h3]
    have h4 : j % k < (L e0).length := by rw [hL]; exact h2
    simp [hj, List.getElem?_eq_getElem h4]
    rw [hL, List.getElem?_eq_getElem h4]
    rfl
  · have hl := flat_len L k hL (List.replicate m e0)
    rw [List.length_replicate] at hl
    rw [List.getElem?_eq_none (by rw [Array.length_toList, Array.size_map, Array.size_range]; omega), List.getElem?_eq_none (by rw [hl]; omega)]
theorem own_rd {w : World} {base : Nat} {e : TypeId} {size n c : Nat} {A : Option Addr} {xs : List Value} (h : w.ownsRow base e size (.slice A n c) n xs) : RdC w A xs := by
  rcases own_addr h with ⟨rfl, hz, _⟩ | ⟨g, rfl, _, _⟩
  · have := h.1
    rw [hz, Nat.zero_mul] at this
    exact .inl (List.eq_nil_of_length_eq_zero this)
  · refine .inr ⟨_, rfl, fun j u hj => ?_⟩
    rw [Addr.add_mid, Nat.zero_add, own_cells h j (by have := h.1; have := (List.getElem?_eq_some_iff.1 hj).1; omega)]
    exact hj
end Go.Proofs.Ytacohanlpgkdeaa
