/- Lemmas, several texts in one. -/
import Derived.Test.YtoghcefamoefpaaGreatDoorQ01
import Derived.Lib.LaidTab
import Derived.Lib.ItoaNum
import Derived.Shelf.Strconv.Itoa3
import Derived.HandedShaped
import Derived.Shelf.Vars
import Derived.LaidMore
import Derived.Lay
import Derived.Stop.LaidErr
import Derived.Stop.Joined
import Derived.Carry
import Derived.ProofKit
import Derived.OpenShut
import Derived.ChangeSlices
import Derived.Deep.Fields
import Derived.Test.YtoghcefamoefpaaGreatDoorRows
import Derived.Deep.Slices
/- Rows of elements of several cells: of a call's own, read, appended to. -/
namespace Go.Proofs.YtoghcefamoefpaaGreatDoor
open Go.ChangeShapes Go.WideShapes Go.ChangeAt Go.RowKit
set_option linter.unusedVariables false
set_option linter.unusedSimpArgs false

section
variable {α : Type} (L : α → List Value) (k : Nat) (hL : ∀ x, (L x).length = k)
include hL
theorem flat_len : ∀ es : List α, (es.flatMap L).length = es.length * k
  | [] => by simp
  | e :: t => by simp only [List.flatMap_cons, List.length_append, hL, flat_len t, List.length_cons]; rw [Nat.succ_mul, Nat.add_comm]
theorem flat_take : ∀ (es : List α) (j : Nat), (es.flatMap L).take (j * k) = (es.take j).flatMap L
  | [], j => by simp
  | e :: t, 0 => by simp
  | e :: t, j + 1 => by
    rw [List.flatMap_cons, List.take_succ_cons, List.flatMap_cons, List.take_append, hL, List.take_of_length_le (by rw [hL, Nat.succ_mul]; omega), ← flat_take t j]
    congr 2
    rw [Nat.succ_mul]; omega
theorem flat_drop : ∀ (es : List α) (j : Nat), (es.flatMap L).drop (j * k) = (es.drop j).flatMap L
  | [], j => by simp
  | e :: t, 0 => by simp
  | e :: t, j + 1 => by
    rw [List.flatMap_cons, List.drop_succ_cons, List.drop_append, hL, List.drop_eq_nil_of_le (by rw [hL, Nat.succ_mul]; omega), List.nil_append, ← flat_drop t j]
    congr 1
    rw [Nat.succ_mul]; omega
theorem flat_get (es : List α) (j i : Nat) (hj : j < es.length) (hi : i < k) : (es.flatMap L)[j * k + i]? = (L es[j])[i]? := by
  rw [← List.getElem?_drop, flat_drop L k hL, List.drop_eq_getElem_cons hj, List.flatMap_cons, List.getElem?_append_left (by rw [hL]; exact hi)]
end
/-- cells replaced from a place on. -/
theorem set_eq {α : Type} : ∀ (l : List α) (o : Nat) (v : α), o < l.length → l.set o v = l.take o ++ v :: l.drop (o + 1)
  | [], _, _, h => by simp at h
  | a :: t, 0, v, _ => by simp
  | a :: t, o + 1, v, h => by simp [set_eq t o v (by simpa using h)]
theorem spl_eq : ∀ (vs cs : List Value) (o : Nat), o + vs.length ≤ cs.length → spl cs o vs = cs.take o ++ vs ++ cs.drop (o + vs.length)
  | [], cs, o, _ => by simp [spl]
  | v :: r, cs, o, h => by
    simp only [List.length_cons] at h
    have ho : o < cs.length := by omega
    rw [spl, spl_eq r _ _ (by simp; omega), set_eq cs o v ho]
    have e1 : (cs.take o ++ v :: cs.drop (o + 1)).take (o + 1) = cs.take o ++ [v] := by
      rw [List.take_append, List.take_of_length_le (by rw [List.length_take]; omega), List.length_take, Nat.min_eq_left (by omega), show o + 1 - o = 1 by omega]
      rfl
    have e2 : (cs.take o ++ v :: cs.drop (o + 1)).drop (o + 1 + r.length) = cs.drop (o + (v :: r).length) := by
      rw [List.drop_append, List.length_take, Nat.min_eq_left (by omega), List.drop_eq_nil_of_le (by rw [List.length_take]; omega), List.nil_append]
      rw [show o + 1 + r.length - o = r.length + 1 by omega, List.drop_succ_cons, List.drop_drop]
      congr 1; simp; omega
    rw [e1, e2]; simp
theorem spl_take (vs cs : List Value) (o n : Nat) (h : o + vs.length ≤ n) (hn : n ≤ cs.length) : (spl cs o vs).take n = spl (cs.take n) o vs := by
  rw [spl_eq vs cs o (by omega), spl_eq vs (cs.take n) o (by rw [List.length_take]; omega)]
  rw [List.take_append, List.take_of_length_le (by rw [List.length_append, List.length_take]; omega), List.length_append, List.length_take, Nat.min_eq_left (by omega), List.take_take, Nat.min_eq_left (by omega), List.drop_take]
theorem spl_flat {α : Type} (L : α → List Value) (k : Nat) (hL : ∀ x, (L x).length = k) (es : List α) (j : Nat) (e : α) (hj : j < es.length) : spl (es.flatMap L) (j * k) (L e) = (es.set j e).flatMap L := by
  have hl := flat_len L k hL es
  have h1 : j * k + k ≤ es.length * k := by rw [← Nat.succ_mul]; exact Nat.mul_le_mul_right k hj
  rw [spl_eq _ _ _ (by rw [hL, hl]; exact h1), hL, set_eq es j e hj, List.flatMap_append, List.flatMap_cons, flat_take L k hL, ← Nat.succ_mul, flat_drop L k hL, List.append_assoc]
/-- a row of the call's own, opened; a store into it. -/
theorem own_open {w : World} {base : Nat} {e : TypeId} {size g n c : Nat} {xs : List Value} (h : w.ownsRow base e size (.slice (some ⟨g, 0, none⟩) n c) n xs) :
    ∃ cur, Bxo w g e cur ∧ cur.length = c * size ∧ cur.take (n * size) = xs ∧ base ≤ g ∧ n ≤ c ∧ c ≤ maxLen ∧ xs.length = n * size := by
  rcases h.2 with ⟨h', _⟩ | ⟨g', cap, cur, hv, hb, hh, hn, hm, hs, ht⟩
  · cases h'
  · injection hv with h1 h2 h3
    subst h3
    injection h1 with h1
    injection h1 with h1
    subst h1
    exact ⟨cur.toList, by unfold Bxo; simpa using hh, by simpa using hs, by simpa using ht, hb, hn, hm, h.1⟩
theorem own_shut {w : World} {base : Nat} {e : TypeId} {size g n c : Nat} {xs cur : List Value} (hb : Bxo w g e cur) (h1 : cur.length = c * size) (h2 : cur.take (n * size) = xs) (h3 : base ≤ g) (h4 : n ≤ c) (h5 : c ≤ maxLen) (h6 : xs.length = n * size) :
    w.ownsRow base e size (.slice (some ⟨g, 0, none⟩) n c) n xs :=
  ⟨h6, .inr ⟨g, c, cur.toArray, rfl, h3, hb, h4, h5, by simpa using h1, by simpa using h2⟩⟩
theorem own_keep {w w' : World} {base : Nat} {e : TypeId} {size g n c : Nat} {xs : List Value} (h : w.ownsRow base e size (.slice (some ⟨g, 0, none⟩) n c) n xs) (hh : w'.heap[g]? = w.heap[g]?) : w'.ownsRow base e size (.slice (some ⟨g, 0, none⟩) n c) n xs := by
  obtain ⟨cur, a1, a2, a3, a4, a5, a6, a7⟩ := own_open h
  exact own_shut (hh.trans a1) a2 a3 a4 a5 a6 a7
theorem own_spl {w w' : World} {base : Nat} {e : TypeId} {size g n c : Nat} {xs cur vs : List Value} {o : Nat} (h : w.ownsRow base e size (.slice (some ⟨g, 0, none⟩) n c) n xs) (hc : Bxo w g e cur) (ho : o + vs.length ≤ n * size) (hb : Bxo w' g e (spl cur o vs)) :
    w'.ownsRow base e size (.slice (some ⟨g, 0, none⟩) n c) n (spl xs o vs) := by
  obtain ⟨cur', a1, a2, a3, a4, a5, a6, a7⟩ := own_open h
  have e : cur' = cur := by
    have := a1.symm.trans hc
    simpa using this
  subst e
  have hle : n * size ≤ cur'.length := by rw [a2]; exact Nat.mul_le_mul_right size a5
  exact own_shut hb (by rw [spl_length]; exact a2) (by rw [spl_take vs cur' o _ ho hle, a3]) a4 a5 a6 (by rw [spl_length]; exact a7)
/-- the slice at A reads as these cells. -/
def RdC (w : World) (A : Option Addr) (cs : List Value) : Prop := cs = [] ∨ ∃ ad, A = some ad ∧ ∀ (j : Nat) (u : Value), cs[j]? = some u → w.cell? (ad.add j) = some u
theorem RdC.keep {w w' : World} {A : Option Addr} {cs : List Value} (h : RdC w A cs) (hb : Below w.heap.size w w') : RdC w' A cs := by
  rcases h with h | ⟨ad, e, hc⟩
  · exact .inl h
  · refine .inr ⟨ad, e, fun j u hj => ?_⟩
    have := hc j u hj
    rw [← this]
    exact hb.cell (World.block_lt_of_cell? w _ this)
theorem wpList_append_rdK {P : Program} {w : World} {ops : Array Oper} {rest : List Oper} {o : Oper} {a : Act} {Q : Exit → Act → World → Prop} (hgd : o.guard = none) (s x : Operand) (t : TypeId)
    (ho : o.op = .call { callee := .builtin .append, args := #[s, x], argTypes := #[t, t] })
    (base : Nat) (e : TypeId) (i : TypeInfo) (z : Value) (k bytes : Nat) (ht : P.underlying t = some (.slice e)) (hi : P.info? e = some i) (hz : i.zero = some z)
    (hsize : i.size = k) (hby : i.bytes = bytes) (hzs : z.cells.size = k) (hk : 0 < k)
    (v : Value) (n : Nat) (xs : List Value) (hs : a.eval s = v) (hown : w.ownsRow base e k v n xs)
    (A : Option Addr) (m c : Nat) (news : List Value) (hx : a.eval x = .slice A m c) (hm : news.length = m * k) (hc : A = none → c = 0 ∧ m = 0) (hr : RdC w A news) (h1 : ∀ u ∈ news, u.oneCell' = true)
    (h63 : n + m ≤ maxLen) (hbytes : (n + m) * bytes ≤ 140737488355328) (hbase : base ≤ w.heap.size)
    (h : ∀ v' w', w'.ownsRow base e k v' (n + m) (xs ++ news) → w.grownBy w' v.ownBlock → (v'.ownBlock = v.ownBlock ∨ v'.ownBlock = some w.heap.size) → wpList P ops Q rest (a.put o.dst v') w') :
    wpList P ops Q (o :: rest) a w := by
  rcases A with _ | ad
  · obtain ⟨rfl, rfl⟩ := hc rfl
    have hn : news = [] := List.eq_nil_of_length_eq_zero (by simpa using hm)
    subst hn
    exact wpList_append_own_none hgd s x t ho base e i k ht hi v n xs hs hown hx (h v w (by simpa using hown) (World.grownBy.refl w _) (.inl rfl))
  · refine wpList_append_own_at w hgd s x t ho base e i z k bytes ht hi hz hsize hby hzs hk v n xs hs hown ad m c news hx (by omega) ?_ h1 h63 hbytes hbase (fun v' w' g1 g2 _ g4 => h v' w' g1 g2 g4)
    intro j u hj
    rcases hr with h | ⟨ad', h', hcell⟩
    · subst h; simp at hj
    · cases h'; exact hcell j u hj
theorem wpList_copy_rdK {P : Program} {w : World} {ops : Array Oper} {rest : List Oper} {o : Oper} {a : Act} {Q : Exit → Act → World → Prop} (hgd : o.guard = none) (s x : Operand) (t : TypeId)
    (ho : o.op = .call { callee := .builtin .append, args := #[s, x], argTypes := #[t, t] })
    (e : TypeId) (i : TypeInfo) (z : Value) (k bytes : Nat) (ht : P.underlying t = some (.slice e)) (hi : P.info? e = some i) (hz : i.zero = some z)
    (hsize : i.size = k) (hby : i.bytes = bytes) (hzs : z.cells.size = k) (hk : 0 < k) (hs : a.eval s = .slice (some ⟨w.heap.size, 0, none⟩) 0 0)
    (A : Option Addr) (m c : Nat) (news : List Value) (hx : a.eval x = .slice A m c) (hm : news.length = m * k) (hc : A = none → c = 0 ∧ m = 0) (hr : RdC w A news) (h1 : ∀ u ∈ news, u.oneCell' = true)
    (h63 : m ≤ maxLen) (hbytes : m * bytes ≤ 140737488355328)
    (h : ∀ v' w', w'.ownsRow w.heap.size e k v' m news → Below w.heap.size w w' → wpList P ops Q rest (a.put o.dst v') w') :
    wpList P ops Q (o :: rest) a (w.alloc (.cells #[] e)) := by
  refine wpList_append_rdK hgd s x t ho w.heap.size e i z k bytes ht hi hz hsize hby hzs hk _ 0 [] hs (World.ownsRow_made w #[] 0 (Nat.le_refl _) (by unfold maxLen; omega) (by simp)) A m c news hx hm hc (hr.keep ((Below.refl _ _).alloc (Nat.le_refl _) _)) h1 (by simpa using h63) (by simpa using hbytes) (by simp) ?_
  intro v' w' hown hg hat
  rw [Nat.zero_add, List.nil_append] at hown
  exact h v' w' hown (((Below.refl _ _).alloc (Nat.le_refl _) _).grown hg (by simp) (fun k hk => by simp [Value.ownBlock] at hk; omega))
/-- a copy of a row. -/
def CopiedK (w0 : World) (e : TypeId) (k n : Nat) (cs : List Value) (x : Ending) (w : World) : Prop := ∃ A c, x = .returned (.slice A n c) ∧ w.ownsRow w0.heap.size e k (.slice A n c) n cs ∧ Below w0.heap.size w0 w
theorem own_slice {w : World} {base : Nat} {e : TypeId} {k : Nat} {v : Value} {n : Nat} {xs : List Value} (h : w.ownsRow base e k v n xs) : ∃ A c, v = .slice A n c := by
  rcases h.2 with ⟨rfl, rfl⟩ | ⟨g, cap, cur, rfl, _⟩
  · exact ⟨_, _, rfl⟩
  · exact ⟨_, _, rfl⟩
theorem own_none (w : World) (base : Nat) (e : TypeId) (k : Nat) : w.ownsRow base e k (.slice none 0 0) 0 [] := ⟨by simp, .inl ⟨rfl, rfl⟩⟩
/-- one block may have turned, others were added. -/
structure Gro (g : Nat) (w w' : World) : Prop where
  os : w'.os = w.os
  tape : w'.tape = w.tape
  output : w'.output = w.output
  size : w.heap.size ≤ w'.heap.size
  block : ∀ k, k < w.heap.size → k ≠ g → w'.heap[k]? = w.heap[k]?
section
variable {g B : Nat} {w w' w'' : World} {ty : TypeId} {cs : List Value}
theorem Gro.refl : Gro g w w := ⟨rfl, rfl, rfl, Nat.le_refl _, fun _ _ _ => rfl⟩
theorem Gro.trans (h : Gro g w w') (k : Gro g w' w'') : Gro g w w'' := ⟨k.os.trans h.os, k.tape.trans h.tape, k.output.trans h.output, Nat.le_trans h.size k.size, fun i hi hg => (k.block i (Nat.lt_of_lt_of_le hi h.size) hg).trans (h.block i hi hg)⟩
theorem Only.gro (h : Only g w w') : Gro g w w' := ⟨h.os, h.tape, h.output, Nat.le_of_eq h.size.symm, fun k _ hk => h.block k hk⟩
theorem gro_below (h : Below w.heap.size w w') : Gro g w w' := ⟨h.os, h.tape, h.output, h.size, fun k hk _ => h.block k hk⟩
theorem gro_grown (h : w.grownBy w' (some g)) : Gro g w w' := ⟨h.os, h.tape, h.output, h.size, fun k hk hg => h.block k hk (fun e => hg (by injection e))⟩
theorem Gro.below (h : Gro g w w') (hB : B ≤ g) (hs : B ≤ w.heap.size) : Below B w w' := ⟨h.os, h.tape, h.output, h.size, fun k hk => h.block k (by omega) (by omega)⟩
theorem Bxo.gro {g' : Nat} (h : Bxo w g' ty cs) (hg : Gro g w w') (hne : g' ≠ g) : Bxo w' g' ty cs := (hg.block g' h.lt hne).trans h
end
def blk (A : Option Addr) : Option Nat := A.map Addr.block
theorem own_none_any {w w' : World} {base base' : Nat} {e : TypeId} {size n c : Nat} {xs : List Value} (h : w.ownsRow base e size (.slice none n c) n xs) : w'.ownsRow base' e size (.slice none n c) n xs := by
  refine ⟨h.1, ?_⟩
  rcases h.2 with h | ⟨g, cap, cur, hv, _⟩
  · exact .inl h
  · cases hv
theorem own_addr {w : World} {base : Nat} {e : TypeId} {size n c : Nat} {A : Option Addr} {xs : List Value} (h : w.ownsRow base e size (.slice A n c) n xs) : (A = none ∧ n = 0 ∧ c = 0) ∨ ∃ g, A = some ⟨g, 0, none⟩ ∧ base ≤ g ∧ g < w.heap.size := by
  rcases h.2 with ⟨h, h'⟩ | ⟨g, cap, cur, hv, hb, hh, _⟩
  · injection h with a b c
    exact .inl ⟨a, h', c⟩
  · injection hv with a b c
    exact .inr ⟨g, a, hb, (Array.getElem?_eq_some_iff.1 hh).1⟩
theorem own_keepA {w w' : World} {base : Nat} {e : TypeId} {size n c : Nat} {A : Option Addr} {xs : List Value} (h : w.ownsRow base e size (.slice A n c) n xs) (hk : ∀ g, blk A = some g → w'.heap[g]? = w.heap[g]?) : w'.ownsRow base e size (.slice A n c) n xs := by
  rcases own_addr h with ⟨rfl, _⟩ | ⟨g, rfl, _⟩
  · exact own_none_any h
  · exact own_keep h (hk g rfl)
theorem own_base {w : World} {base base' : Nat} {e : TypeId} {size n c : Nat} {A : Option Addr} {xs : List Value} (h : w.ownsRow base e size (.slice A n c) n xs) (hb : base' ≤ base) : w.ownsRow base' e size (.slice A n c) n xs := by
  refine ⟨h.1, ?_⟩
  rcases h.2 with h | ⟨g, cap, cur, hv, h1, h2⟩
  · exact .inl h
  · exact .inr ⟨g, cap, cur, hv, Nat.le_trans hb h1, h2⟩
theorem own_cap {w : World} {base : Nat} {e : TypeId} {size n c : Nat} {A : Option Addr} {xs : List Value} (h : w.ownsRow base e size (.slice A n c) n xs) : n ≤ c ∧ c ≤ maxLen := by
  rcases h.2 with ⟨h, h'⟩ | ⟨g, cap, cur, hv, hb, hh, h1, h2, _⟩
  · injection h with a b c'; subst c'; subst h'; exact ⟨Nat.le_refl _, by unfold maxLen; omega⟩
  · injection hv with a b c'; subst c'; exact ⟨h1, h2⟩
theorem own_cells {w : World} {base : Nat} {e : TypeId} {size g n c : Nat} {xs : List Value} (h : w.ownsRow base e size (.slice (some ⟨g, 0, none⟩) n c) n xs) (j : Nat) (hj : j < n * size) : w.cell? ⟨g, j, none⟩ = xs[j]? := h.cellAt j hj
theorem ownBlock_blk (A : Option Addr) (n c : Nat) : (Value.slice A n c).ownBlock = blk A := by cases A <;> rfl
theorem add_at (ad : Addr) (k i : Nat) (h : 0 < i) : ad.add (k + i) = { block := (ad.add k).block, off := (ad.add k).off + i } := by
  unfold Addr.add
  by_cases hk : k = 0
  · subst hk; simp [Nat.ne_of_gt h]
  · simp [hk, Nat.add_assoc]
theorem at_off {w : World} {ad : Addr} {k : Nat} {v : Value} (i : Nat) (h : w.cell? (ad.add (k + i)) = some v) (hi : 0 < i) : w.cell? { block := (ad.add k).block, off := (ad.add k).off + i } = some v := by
  rw [← add_at ad k i hi]; exact h
/- a pool as a value, and in memory. -/
theorem add_add (ad : Addr) (k j : Nat) : (ad.add k).add j = ad.add (k + j) := by
  by_cases h : j = 0
  · subst h; simp [Addr.add]
  · rw [add_at ad k j (by omega)]; unfold Addr.add; simp [h]
theorem list_cells {w : World} {ad : Addr} {cs : List Value} (h : ∀ j (hj : j < cs.length), w.cell? (ad.add j) = some cs[j]) : ∀ j v, cs[j]? = some v → w.cell? (ad.add j) = some v := fun j v hv => by
  obtain ⟨hj, rfl⟩ := List.getElem?_eq_some_iff.1 hv
  exact h j hj
/-- a row that was made: its elements are all nothing. -/
theorem flat_made {α : Type} (L : α → List Value) (k : Nat) (hL : ∀ x, (L x).length = k) (hk : 0 < k) (e0 : α) (m : Nat) : (madeCells (L e0).toArray (m * k)).toList = (List.replicate m e0).flatMap L := by
  unfold madeCells
  refine List.ext_getElem? fun j => ?_
  by_cases hj : j < m * k
  · have h1 : j / k < m := (Nat.div_lt_iff_lt_mul hk).2 hj
    have h2 : j % k < k := Nat.mod_lt _ hk
    have h3 := flat_get L k hL (List.replicate m e0) (j / k) (j % k) (by simpa using h1) h2
    rw [show j / k * k + j % k = j by rw [Nat.mul_comm]; exact Nat.div_add_mod j k] at h3
    rw [h3]
    have h4 : j % k < (L e0).length := by rw [hL]; exact h2
    simp [hj, List.getElem?_eq_getElem h4]
    rw [hL, List.getElem?_eq_getElem h4]
    rfl
  · have hl := flat_len L k hL (List.replicate m e0)
    rw [List.length_replicate] at hl
    rw [List.getElem?_eq_none (by rw [Array.length_toList, Array.size_map, Array.size_range]; omega), List.getElem?_eq_none (by rw [hl]; omega)]
theorem own_rd {w : World} {base : Nat} {e : TypeId} {size n c : Nat} {A : Option Addr} {xs : List Value} (h : w.ownsRow base e size (.slice A n c) n xs) : RdC w A xs := by
  rcases own_addr h with ⟨rfl, hz, _⟩ | ⟨g, rfl, _, _⟩
  · have := h.1
    rw [hz, Nat.zero_mul] at this
    exact .inl (List.eq_nil_of_length_eq_zero this)
  · refine .inr ⟨_, rfl, fun j u hj => ?_⟩
    rw [Addr.add_mid, Nat.zero_add, own_cells h j (by have := h.1; have := (List.getElem?_eq_some_iff.1 hj).1; omega)]
    exact hj
end Go.Proofs.YtoghcefamoefpaaGreatDoor

/- Routes as values, and in rows. -/
namespace Go.Proofs.YtoghcefamoefpaaGreatDoor
open Go.ChangeShapes Go.WideShapes Go.ChangeAt Go.RowKit
set_option linter.unusedVariables false
set_option linter.unusedSimpArgs false

def Rt.L (r : Rt) : List Value := [.int .u32 r.net, .int .i64 r.bits, .int .i64 r.zone, .int .i64 r.mtu]
abbrev rtL (r : Rt) : List Value := [.int .u32 r.net, .int .i64 r.bits, .int .i64 r.zone, .int .i64 r.mtu]
abbrev rtV (r : Rt) : Value := .agg #[.int .u32 r.net, .int .i64 r.bits, .int .i64 r.zone, .int .i64 r.mtu]
abbrev oRt (r : Rt) : Obj := .cells #[.int .u32 r.net, .int .i64 r.bits, .int .i64 r.zone, .int .i64 r.mtu] 46
theorem Rt.len (r : Rt) : r.L.length = 4 := rfl
theorem info_rt : (Tryz.prog.info? 46).map (·.size) = some 4 := by kernel_rfl
theorem info_rtz : (Tryz.prog.info? 46).map (fun i => (i.zero, i.size, i.bytes)) = some (some (.agg #[.int .u32 0, .int .i64 0, .int .i64 0, .int .i64 0]), 4, 32) := by kernel_rfl
theorem rt_one (l : List Rt) : ∀ u ∈ l.flatMap Rt.L, u.oneCell' = true := fun u hu => by
  obtain ⟨e, _, he⟩ := List.mem_flatMap.1 hu
  simp only [Rt.L, List.mem_cons, List.not_mem_nil, or_false] at he
  rcases he with rfl | rfl | rfl | rfl <;> rfl
def sameRt (a b : Rt) : Bool := a.net == b.net && (a.bits == b.bits && (a.zone == b.zone && a.mtu == b.mtu))
theorem sameRt_iff (a b : Rt) : sameRt a b = true ↔ a = b := by
  obtain ⟨a1, a2, a3, a4⟩ := a
  obtain ⟨b1, b2, b3, b4⟩ := b
  unfold sameRt
  simp
set_option maxRecDepth 100000 in
theorem eqInRt (m n : Rt) (w : World) : (Op.equalIn 10000 46 (rtV m) (rtV n)).run Tryz.prog w = .ok (sameRt m n) w := by
  have hS : Tryz.prog.underlying 46 = some (.struct (Tryz.prog.fieldsOf 46)) := by kernel_rfl
  have hp : Tryz.prog.stoodInHeld 46 = false := by kernel_rfl
  have u3 := Tryz.underlying3
  have u4 := Tryz.underlying24
  have a3 := Tryz.isAgg3
  have z3 := Tryz.sizeOf3
  have a4 := Tryz.isAgg24
  have z4 := Tryz.sizeOf24
  rw [show (10000 : Nat) = 9999 + 1 from rfl, run_equalIn_agg w 9999 46 _ _ hS hp]
  simp only [Program.fieldsOf, Tryz.underlying46]
  obtain ⟨m1, m2, m3, m4⟩ := m
  obtain ⟨n1, n2, n3, n4⟩ := n
  unfold sameRt
  dsimp only
  simp only [Op.eqFields]
  go_simp
  by_cases h1 : m1 = n1 <;> by_cases h2 : m2 = n2 <;> by_cases h3 : m3 = n3 <;> by_cases h4 : m4 = n4 <;> simp [h1, h2, h3, h4]
theorem eqRt (m n : Rt) (w : World) : (binOp .eql 46 (rtV m) (rtV n)).run Tryz.prog w = .ok (.bool (sameRt m n)) w := by
  rw [run_eql_struct, eqInRt]; rfl
theorem neRt (m n : Rt) (w : World) : (binOp .neq 46 (rtV m) (rtV n)).run Tryz.prog w = .ok (.bool (!sameRt m n)) w := by
  rw [run_neq_struct, eqInRt]; rfl
/-- routes in a row. -/
structure RtsAt (w : World) (l : List Rt) (A : Option Addr) (c : Nat) : Prop where
  len : l.length ≤ c
  cap : c ≤ 9223372036854775807
  nil : A = none → c = 0
  rd : RdC w A (l.flatMap Rt.L)
  rng : ∀ r ∈ l, RngRt r
section
variable {w w' : World} {l : List Rt} {A : Option Addr} {c : Nat}
theorem RtsAt.at (h : RtsAt w l A c) (y : Below w.heap.size w w') : RtsAt w' l A c := ⟨h.len, h.cap, h.nil, h.rd.keep y, h.rng⟩
theorem RtsAt.cell (h : RtsAt w l A c) {i : Nat} (hi : i < l.length) : ∃ ad, A = some ad ∧ ∀ Y, Below w.heap.size w Y → ∀ j v, (rtL l[i])[j]? = some v → Y.cell? ((ad.add (i * 4)).add j) = some v := by
  rcases h.rd with h0 | ⟨ad, e, hc⟩
  · have := flat_len Rt.L 4 Rt.len l
    rw [h0] at this
    simp at this
    omega
  · refine ⟨ad, e, fun Y y j v hv => ?_⟩
    have hj : j < 4 := by have := (List.getElem?_eq_some_iff.1 hv).1; simpa using this
    have h1 : (l.flatMap Rt.L)[i * 4 + j]? = some v := by
      rw [flat_get Rt.L 4 Rt.len l i j hi hj]; exact hv
    have h2 := hc _ _ h1
    rw [add_add]
    exact (y.cell (World.block_lt_of_cell? w _ h2)).trans h2
/-- the cells of one, as a walk names them. -/
theorem RtsAt.cells (h : RtsAt w l A c) {i : Nat} (hi : i < l.length) : ∃ ad, A = some ad ∧ ∀ Y, Below w.heap.size w Y → Y.cell? (ad.add (i * 4)) = some (.int .u32 l[i].net) ∧ Y.cell? { block := (ad.add (i * 4)).block, off := (ad.add (i * 4)).off + 1 } = some (.int .i64 l[i].bits) := by
  obtain ⟨ad, e, hc⟩ := h.cell hi
  refine ⟨ad, e, fun Y y => ⟨?_, ?_⟩⟩
  · have := hc Y y 0 _ rfl
    rwa [add_add, Nat.add_zero] at this
  · exact at_off 1 (by have := hc Y y 1 _ rfl; rwa [add_add] at this) (by omega)
/-- its first ones. -/
theorem RtsAt.take (h : RtsAt w l A c) (n : Nat) : RtsAt w (l.take n) A c := by
  refine ⟨by rw [List.length_take]; have := h.len; omega, h.cap, h.nil, ?_, fun r hr => h.rng r (List.mem_of_mem_take hr)⟩
  rcases h.rd with h0 | ⟨ad, e, hc⟩
  · left
    have := flat_len Rt.L 4 Rt.len l
    rw [h0] at this
    simp at this
    have hl : l = [] := List.eq_nil_of_length_eq_zero (by omega)
    subst hl
    simp
  · refine .inr ⟨ad, e, fun j u hj => hc j u ?_⟩
    rw [← flat_take Rt.L 4 Rt.len, List.getElem?_take] at hj
    split at hj
    · exact hj
    · cases hj
theorem RtsAt.ofOwn {n base : Nat} {e : TypeId} (hn : l.length = n) (ho : w.ownsRow base e 4 (.slice A n c) n (l.flatMap Rt.L)) (hr : ∀ r ∈ l, RngRt r) : RtsAt w l A c := by
  have hcc := own_cap ho
  unfold maxLen at hcc
  refine ⟨by omega, hcc.2, fun e => ?_, own_rd ho, hr⟩
  rcases own_addr ho with ⟨_, _, hc⟩ | ⟨g, e', _⟩
  · exact hc
  · rw [e'] at e; cases e
end
end Go.Proofs.YtoghcefamoefpaaGreatDoor

/- Tuples as values: their cells; two that are compared. -/
namespace Go.Proofs.YtoghcefamoefpaaGreatDoor
open Go.ChangeShapes Go.WideShapes Go.ChangeAt Go.RowKit
set_option linter.unusedVariables false
set_option linter.unusedSimpArgs false

abbrev tpL (t : Tp) : List Value := [.int .i64 t.proto, .int .u32 t.src, .int .i64 t.sport, .int .u32 t.dst, .int .i64 t.dport]
abbrev tpV (t : Tp) : Value := .agg #[.int .i64 t.proto, .int .u32 t.src, .int .i64 t.sport, .int .u32 t.dst, .int .i64 t.dport]
theorem tp_one (t : Tp) : ∀ u ∈ tpL t, u.oneCell' = true := by simp [Value.oneCell']
end Go.Proofs.YtoghcefamoefpaaGreatDoor

/- Rules as values, and in rows. -/
namespace Go.Proofs.YtoghcefamoefpaaGreatDoor
open Go.ChangeShapes Go.WideShapes Go.ChangeAt Go.RowKit
set_option linter.unusedVariables false
set_option linter.unusedSimpArgs false

def Ru.L (r : Ru) : List Value := [.int .i64 r.fr, .int .i64 r.to, .int .i64 r.proto, .int .u32 r.src, .int .u32 r.dst, .int .i64 r.sbits, .int .i64 r.dbits, .int .i64 r.lo, .int .i64 r.hi, .int .i64 r.act]
abbrev ruL (r : Ru) : List Value := [.int .i64 r.fr, .int .i64 r.to, .int .i64 r.proto, .int .u32 r.src, .int .u32 r.dst, .int .i64 r.sbits, .int .i64 r.dbits, .int .i64 r.lo, .int .i64 r.hi, .int .i64 r.act]
abbrev ruV (r : Ru) : Value := .agg #[.int .i64 r.fr, .int .i64 r.to, .int .i64 r.proto, .int .u32 r.src, .int .u32 r.dst, .int .i64 r.sbits, .int .i64 r.dbits, .int .i64 r.lo, .int .i64 r.hi, .int .i64 r.act]
abbrev oRu (r : Ru) : Obj := .cells #[.int .i64 r.fr, .int .i64 r.to, .int .i64 r.proto, .int .u32 r.src, .int .u32 r.dst, .int .i64 r.sbits, .int .i64 r.dbits, .int .i64 r.lo, .int .i64 r.hi, .int .i64 r.act] 54
theorem Ru.len (r : Ru) : r.L.length = 10 := rfl
theorem info_ru : (Tryz.prog.info? 54).map (·.size) = some 10 := by kernel_rfl
theorem info_ruz : (Tryz.prog.info? 54).map (fun i => (i.zero, i.size, i.bytes)) = some (some (.agg #[.int .i64 0, .int .i64 0, .int .i64 0, .int .u32 0, .int .u32 0, .int .i64 0, .int .i64 0, .int .i64 0, .int .i64 0, .int .i64 0]), 10, 72) := by kernel_rfl
theorem ru_one (l : List Ru) : ∀ u ∈ l.flatMap Ru.L, u.oneCell' = true := fun u hu => by
  obtain ⟨e, _, he⟩ := List.mem_flatMap.1 hu
  simp only [Ru.L, List.mem_cons, List.not_mem_nil, or_false] at he
  rcases he with rfl | rfl | rfl | rfl | rfl | rfl | rfl | rfl | rfl | rfl <;> rfl
/-- rules in a row. -/
structure RusAt (w : World) (l : List Ru) (A : Option Addr) (c : Nat) : Prop where
  len : l.length ≤ c
  cap : c ≤ 9223372036854775807
  nil : A = none → c = 0
  rd : RdC w A (l.flatMap Ru.L)
  rng : ∀ r ∈ l, RngRu r
section
variable {w w' : World} {l : List Ru} {A : Option Addr} {c : Nat}
theorem RusAt.at (h : RusAt w l A c) (y : Below w.heap.size w w') : RusAt w' l A c := ⟨h.len, h.cap, h.nil, h.rd.keep y, h.rng⟩
theorem RusAt.cell (h : RusAt w l A c) {i : Nat} (hi : i < l.length) : ∃ ad, A = some ad ∧ ∀ Y, Below w.heap.size w Y → ∀ j v, (ruL l[i])[j]? = some v → Y.cell? ((ad.add (i * 10)).add j) = some v := by
  rcases h.rd with h0 | ⟨ad, e, hc⟩
  · have := flat_len Ru.L 10 Ru.len l
    rw [h0] at this
    simp at this
    omega
  · refine ⟨ad, e, fun Y y j v hv => ?_⟩
    have hj : j < 10 := by have := (List.getElem?_eq_some_iff.1 hv).1; simpa using this
    have h1 : (l.flatMap Ru.L)[i * 10 + j]? = some v := by
      rw [flat_get Ru.L 10 Ru.len l i j hi hj]; exact hv
    have h2 := hc _ _ h1
    rw [add_add]
    exact (y.cell (World.block_lt_of_cell? w _ h2)).trans h2
/-- the cells of one, as a walk names them. -/
theorem RusAt.cells (h : RusAt w l A c) {i : Nat} (hi : i < l.length) : ∃ ad, A = some ad ∧ ∀ Y, Below w.heap.size w Y → Y.cell? (ad.add (i * 10)) = some (.int .i64 l[i].fr) ∧ Y.cell? { block := (ad.add (i * 10)).block, off := (ad.add (i * 10)).off + 1 } = some (.int .i64 l[i].to) ∧ Y.cell? { block := (ad.add (i * 10)).block, off := (ad.add (i * 10)).off + 2 } = some (.int .i64 l[i].proto) ∧ Y.cell? { block := (ad.add (i * 10)).block, off := (ad.add (i * 10)).off + 3 } = some (.int .u32 l[i].src) ∧ Y.cell? { block := (ad.add (i * 10)).block, off := (ad.add (i * 10)).off + 4 } = some (.int .u32 l[i].dst) ∧ Y.cell? { block := (ad.add (i * 10)).block, off := (ad.add (i * 10)).off + 5 } = some (.int .i64 l[i].sbits) ∧ Y.cell? { block := (ad.add (i * 10)).block, off := (ad.add (i * 10)).off + 6 } = some (.int .i64 l[i].dbits) ∧ Y.cell? { block := (ad.add (i * 10)).block, off := (ad.add (i * 10)).off + 7 } = some (.int .i64 l[i].lo) ∧ Y.cell? { block := (ad.add (i * 10)).block, off := (ad.add (i * 10)).off + 8 } = some (.int .i64 l[i].hi) ∧ Y.cell? { block := (ad.add (i * 10)).block, off := (ad.add (i * 10)).off + 9 } = some (.int .i64 l[i].act) := by
  obtain ⟨ad, e, hc⟩ := h.cell hi
  refine ⟨ad, e, fun Y y => ⟨?_, ?_, ?_, ?_, ?_, ?_, ?_, ?_, ?_, ?_⟩⟩
  · have := hc Y y 0 _ rfl
    rwa [add_add, Nat.add_zero] at this
  · exact at_off 1 (by have := hc Y y 1 _ rfl; rwa [add_add] at this) (by omega)
  · exact at_off 2 (by have := hc Y y 2 _ rfl; rwa [add_add] at this) (by omega)
  · exact at_off 3 (by have := hc Y y 3 _ rfl; rwa [add_add] at this) (by omega)
  · exact at_off 4 (by have := hc Y y 4 _ rfl; rwa [add_add] at this) (by omega)
  · exact at_off 5 (by have := hc Y y 5 _ rfl; rwa [add_add] at this) (by omega)
  · exact at_off 6 (by have := hc Y y 6 _ rfl; rwa [add_add] at this) (by omega)
  · exact at_off 7 (by have := hc Y y 7 _ rfl; rwa [add_add] at this) (by omega)
  · exact at_off 8 (by have := hc Y y 8 _ rfl; rwa [add_add] at this) (by omega)
  · exact at_off 9 (by have := hc Y y 9 _ rfl; rwa [add_add] at this) (by omega)
/-- its first ones. -/
theorem RusAt.take (h : RusAt w l A c) (n : Nat) : RusAt w (l.take n) A c := by
  refine ⟨by rw [List.length_take]; have := h.len; omega, h.cap, h.nil, ?_, fun r hr => h.rng r (List.mem_of_mem_take hr)⟩
  rcases h.rd with h0 | ⟨ad, e, hc⟩
  · left
    have := flat_len Ru.L 10 Ru.len l
    rw [h0] at this
    simp at this
    have hl : l = [] := List.eq_nil_of_length_eq_zero (by omega)
    subst hl
    simp
  · refine .inr ⟨ad, e, fun j u hj => hc j u ?_⟩
    rw [← flat_take Ru.L 10 Ru.len, List.getElem?_take] at hj
    split at hj
    · exact hj
    · cases hj
theorem RusAt.ofOwn {n base : Nat} {e : TypeId} (hn : l.length = n) (ho : w.ownsRow base e 10 (.slice A n c) n (l.flatMap Ru.L)) (hr : ∀ r ∈ l, RngRu r) : RusAt w l A c := by
  have hcc := own_cap ho
  unfold maxLen at hcc
  refine ⟨by omega, hcc.2, fun e => ?_, own_rd ho, hr⟩
  rcases own_addr ho with ⟨_, _, hc⟩ | ⟨g, e', _⟩
  · exact hc
  · rw [e'] at e; cases e
end
end Go.Proofs.YtoghcefamoefpaaGreatDoor

/- Forwards, configurations as values. -/
namespace Go.Proofs.YtoghcefamoefpaaGreatDoor
open Go.ChangeShapes Go.WideShapes Go.ChangeAt Go.RowKit
set_option linter.unusedVariables false
set_option linter.unusedSimpArgs false

structure RngFw (f : Fw) : Prop where
  addr : 0 ≤ f.addr ∧ f.addr ≤ 4294967295
def Fw.L (r : Fw) : List Value := [.int .i64 r.proto, .int .i64 r.port, .int .u32 r.addr, .int .i64 r.to, .bool r.proxy]
abbrev fwL (r : Fw) : List Value := [.int .i64 r.proto, .int .i64 r.port, .int .u32 r.addr, .int .i64 r.to, .bool r.proxy]
abbrev fwV (r : Fw) : Value := .agg #[.int .i64 r.proto, .int .i64 r.port, .int .u32 r.addr, .int .i64 r.to, .bool r.proxy]
abbrev oFw (r : Fw) : Obj := .cells #[.int .i64 r.proto, .int .i64 r.port, .int .u32 r.addr, .int .i64 r.to, .bool r.proxy] 40
theorem Fw.len (r : Fw) : r.L.length = 5 := rfl
theorem info_fw : (Tryz.prog.info? 40).map (·.size) = some 5 := by kernel_rfl
theorem info_fwz : (Tryz.prog.info? 40).map (fun i => (i.zero, i.size, i.bytes)) = some (some (.agg #[.int .i64 0, .int .i64 0, .int .u32 0, .int .i64 0, .bool false]), 5, 40) := by kernel_rfl
theorem fw_one (l : List Fw) : ∀ u ∈ l.flatMap Fw.L, u.oneCell' = true := fun u hu => by
  obtain ⟨e, _, he⟩ := List.mem_flatMap.1 hu
  simp only [Fw.L, List.mem_cons, List.not_mem_nil, or_false] at he
  rcases he with rfl | rfl | rfl | rfl | rfl <;> rfl
/-- in a row. -/
structure FwsAt (w : World) (l : List Fw) (A : Option Addr) (c : Nat) : Prop where
  len : l.length ≤ c
  cap : c ≤ 9223372036854775807
  nil : A = none → c = 0
  rd : RdC w A (l.flatMap Fw.L)
  rng : ∀ r ∈ l, RngFw r
section
variable {w w' : World} {l : List Fw} {A : Option Addr} {c : Nat}
theorem FwsAt.at (h : FwsAt w l A c) (y : Below w.heap.size w w') : FwsAt w' l A c := ⟨h.len, h.cap, h.nil, h.rd.keep y, h.rng⟩
theorem FwsAt.cell (h : FwsAt w l A c) {i : Nat} (hi : i < l.length) : ∃ ad, A = some ad ∧ ∀ Y, Below w.heap.size w Y → ∀ j v, (fwL l[i])[j]? = some v → Y.cell? ((ad.add (i * 5)).add j) = some v := by
  rcases h.rd with h0 | ⟨ad, e, hc⟩
  · have := flat_len Fw.L 5 Fw.len l
    rw [h0] at this
    simp at this
    omega
  · refine ⟨ad, e, fun Y y j v hv => ?_⟩
    have hj : j < 5 := by have := (List.getElem?_eq_some_iff.1 hv).1; simpa using this
    have h1 : (l.flatMap Fw.L)[i * 5 + j]? = some v := by
      rw [flat_get Fw.L 5 Fw.len l i j hi hj]; exact hv
    have h2 := hc _ _ h1
    rw [add_add]
    exact (y.cell (World.block_lt_of_cell? w _ h2)).trans h2
/-- the cells of one, as a walk names them. -/
theorem FwsAt.cells (h : FwsAt w l A c) {i : Nat} (hi : i < l.length) : ∃ ad, A = some ad ∧ ∀ Y, Below w.heap.size w Y → Y.cell? (ad.add (i * 5)) = some (.int .i64 l[i].proto) ∧ Y.cell? { block := (ad.add (i * 5)).block, off := (ad.add (i * 5)).off + 1 } = some (.int .i64 l[i].port) ∧ Y.cell? { block := (ad.add (i * 5)).block, off := (ad.add (i * 5)).off + 2 } = some (.int .u32 l[i].addr) ∧ Y.cell? { block := (ad.add (i * 5)).block, off := (ad.add (i * 5)).off + 3 } = some (.int .i64 l[i].to) ∧ Y.cell? { block := (ad.add (i * 5)).block, off := (ad.add (i * 5)).off + 4 } = some (.bool l[i].proxy) := by
  obtain ⟨ad, e, hc⟩ := h.cell hi
  refine ⟨ad, e, fun Y y => ⟨?_, ?_, ?_, ?_, ?_⟩⟩
  · have := hc Y y 0 _ rfl
    rwa [add_add, Nat.add_zero] at this
  · exact at_off 1 (by have := hc Y y 1 _ rfl; rwa [add_add] at this) (by omega)
  · exact at_off 2 (by have := hc Y y 2 _ rfl; rwa [add_add] at this) (by omega)
  · exact at_off 3 (by have := hc Y y 3 _ rfl; rwa [add_add] at this) (by omega)
  · exact at_off 4 (by have := hc Y y 4 _ rfl; rwa [add_add] at this) (by omega)
/-- its first ones. -/
theorem FwsAt.take (h : FwsAt w l A c) (n : Nat) : FwsAt w (l.take n) A c := by
  refine ⟨by rw [List.length_take]; have := h.len; omega, h.cap, h.nil, ?_, fun r hr => h.rng r (List.mem_of_mem_take hr)⟩
  rcases h.rd with h0 | ⟨ad, e, hc⟩
  · left
    have := flat_len Fw.L 5 Fw.len l
    rw [h0] at this
    simp at this
    have hl : l = [] := List.eq_nil_of_length_eq_zero (by omega)
    subst hl
    simp
  · refine .inr ⟨ad, e, fun j u hj => hc j u ?_⟩
    rw [← flat_take Fw.L 5 Fw.len, List.getElem?_take] at hj
    split at hj
    · exact hj
    · cases hj
theorem FwsAt.ofOwn {n base : Nat} {e : TypeId} (hn : l.length = n) (ho : w.ownsRow base e 5 (.slice A n c) n (l.flatMap Fw.L)) (hr : ∀ r ∈ l, RngFw r) : FwsAt w l A c := by
  have hcc := own_cap ho
  unfold maxLen at hcc
  refine ⟨by omega, hcc.2, fun e => ?_, own_rd ho, hr⟩
  rcases own_addr ho with ⟨_, _, hc⟩ | ⟨g, e', _⟩
  · exact hc
  · rw [e'] at e; cases e
end
/-- where a configuration's rows lie. -/
structure Cfm where
  A1 : Option Addr
  c1 : Nat
  A2 : Option Addr
  c2 : Nat
  A3 : Option Addr
  c3 : Nat
abbrev cfm0 : Cfm := ⟨none, 0, none, 0, none, 0⟩
abbrev cfL (c : Cf) (p : Cfm) : List Value := [.slice p.A1 c.routes.length p.c1, .slice p.A2 c.rules.length p.c2, .int .i64 c.outside, .int .u32 c.pub, .int .i64 c.lo, .int .i64 c.hi, .slice p.A3 c.fwds.length p.c3, .int .i64 c.tcp, .int .i64 c.other, .int .i64 c.budget]
abbrev cfV (c : Cf) (p : Cfm) : Value := .agg #[.slice p.A1 c.routes.length p.c1, .slice p.A2 c.rules.length p.c2, .int .i64 c.outside, .int .u32 c.pub, .int .i64 c.lo, .int .i64 c.hi, .slice p.A3 c.fwds.length p.c3, .int .i64 c.tcp, .int .i64 c.other, .int .i64 c.budget]
abbrev oCf (c : Cf) (p : Cfm) : Obj := .cells #[.slice p.A1 c.routes.length p.c1, .slice p.A2 c.rules.length p.c2, .int .i64 c.outside, .int .u32 c.pub, .int .i64 c.lo, .int .i64 c.hi, .slice p.A3 c.fwds.length p.c3, .int .i64 c.tcp, .int .i64 c.other, .int .i64 c.budget] 27
theorem info_cf : (Tryz.prog.info? 27).map (·.size) = some 10 := by kernel_rfl
/-- what the library's variables hold. -/
structure Tb (w : World) : Prop where
  mx : ∃ m : Int, w.cell? ⟨3, 0, none⟩ = some (.int .i64 m)
  es : ∃ tp p, w.cell? ⟨6, 0, none⟩ = some (.iface tp p)
  er : ∃ tp p, w.cell? ⟨7, 0, none⟩ = some (.iface tp p)
  tab : Lib.TabIs Tryz.prog w "internal/strconv.uint64pow10" .u64 Lib.pow10Tab
theorem Tb.keep {w w' : World} {B : Nat} (h : Tb w) (hb : ∀ k o, w.heap[k]? = some o → k < B) (y : Below B w w') : Tb w' := by
  have hc : ∀ (a : Addr) v, w.cell? a = some v → w'.cell? a = some v := fun a v ha => by
    refine (y.cell ?_).trans ha
    cases ho : w.heap[a.block]? with
    | none => simp [World.cell?, ho] at ha
    | some o => exact hb _ _ ho
  obtain ⟨m, hm⟩ := h.mx
  obtain ⟨t1, p1, h1⟩ := h.es
  obtain ⟨t2, p2, h2⟩ := h.er
  refine ⟨⟨m, hc _ _ hm⟩, ⟨t1, p1, hc _ _ h1⟩, ⟨t2, p2, hc _ _ h2⟩, ?_⟩
  have e := h.tab
  unfold Lib.TabIs World.var? at e ⊢
  revert e
  cases Tryz.prog.globalNamed "internal/strconv.uint64pow10" with
  | none => exact fun e => e
  | some g =>
    show (match w.heap[g]? with | some (.cells cs _ _) => some cs | _ => none) = _ → (match w'.heap[g]? with | some (.cells cs _ _) => some cs | _ => none) = _
    cases ho : w.heap[g]? with
    | none => exact fun e => by cases e
    | some o =>
      rw [(y.block _ (hb _ _ ho)).trans ho]
      exact fun e => e
theorem Tb.at {w w' : World} (h : Tb w) (y : Below w.heap.size w w') : Tb w' := h.keep (fun k o hk => (Array.getElem?_eq_some_iff.1 hk).1) y
/-- a configuration in memory. -/
structure CfAt (w : World) (c : Cf) (p : Cfm) : Prop where
  routes : RtsAt w c.routes p.A1 p.c1
  rules : RusAt w c.rules p.A2 p.c2
  fwds : FwsAt w c.fwds p.A3 p.c3
  pub : 0 ≤ c.pub ∧ c.pub ≤ 4294967295
  tb : Tb w
theorem CfAt.at {w w' : World} {c : Cf} {p : Cfm} (h : CfAt w c p) (y : Below w.heap.size w w') : CfAt w' c p := ⟨h.routes.at y, h.rules.at y, h.fwds.at y, h.pub, h.tb.at y⟩
theorem CfAt.rng {w : World} {c : Cf} {p : Cfm} (h : CfAt w c p) : RngC c := ⟨h.routes.rng, h.rules.rng, h.pub, fun f hf => (h.fwds.rng f hf).addr⟩
theorem CfAt.budget {w : World} {c : Cf} {p : Cfm} (h : CfAt w c p) (n : Int) : CfAt w { c with budget := n } p := ⟨h.routes, h.rules, h.fwds, h.pub, h.tb⟩
/-- its rows lie in new memory. -/
structure FreshM (B : Nat) (p : Cfm) : Prop where
  a1 : ∀ ad, p.A1 = some ad → B ≤ ad.block
  a2 : ∀ ad, p.A2 = some ad → B ≤ ad.block
  a3 : ∀ ad, p.A3 = some ad → B ≤ ad.block
theorem rdC_only {w w' : World} {g : Nat} {A : Option Addr} {cs : List Value} (h : RdC w A cs) (ho : Only g w w') (hg : ∀ ad, A = some ad → g < ad.block) : RdC w' A cs := by
  rcases h with h | ⟨ad, e, hc⟩
  · exact .inl h
  · refine .inr ⟨ad, e, fun j u hj => ?_⟩
    have hb : (ad.add j).block = ad.block := by cases j <;> rfl
    rw [World.cell?_of_block (ho.block _ (by rw [hb]; have := hg ad e; omega))]
    exact hc j u hj
theorem CfAt.only {w w' : World} {c : Cf} {p : Cfm} {g B : Nat} (h : CfAt w c p) (ho : Only g w w') (hf : FreshM B p) (hg : g < B) (ht : Tb w') : CfAt w' c p :=
  ⟨⟨h.routes.len, h.routes.cap, h.routes.nil, rdC_only h.routes.rd ho (fun ad e => Nat.lt_of_lt_of_le hg (hf.a1 ad e)), h.routes.rng⟩,
   ⟨h.rules.len, h.rules.cap, h.rules.nil, rdC_only h.rules.rd ho (fun ad e => Nat.lt_of_lt_of_le hg (hf.a2 ad e)), h.rules.rng⟩,
   ⟨h.fwds.len, h.fwds.cap, h.fwds.nil, rdC_only h.fwds.rd ho (fun ad e => Nat.lt_of_lt_of_le hg (hf.a3 ad e)), h.fwds.rng⟩, h.pub, ht⟩
/-- a text's bytes. -/
def txB (s : ByteArray) : Tx := s.data.toList
theorem txB_len (s : ByteArray) : (txB s).length = s.size := by unfold txB; rw [Array.length_toList]; rfl
theorem txB_app (a b : ByteArray) : txB (a ++ b) = txB a ++ txB b := by unfold txB; rw [ByteArray.data_append, Array.toList_append]
def shortC (c : Cf) : Bool := decide (c.routes.length ≤ 80) && (decide (c.rules.length ≤ 80) && decide (c.fwds.length ≤ 50))
theorem shortC_iff (c : Cf) : shortC c = true ↔ c.routes.length ≤ 80 ∧ c.rules.length ≤ 80 ∧ c.fwds.length ≤ 50 := by unfold shortC; rw [Bool.and_eq_true, Bool.and_eq_true, decide_eq_true_eq, decide_eq_true_eq, decide_eq_true_eq]
theorem RightC.short {c : Cf} (h : RightC c) : shortC c = true := by
  obtain ⟨a, b, d⟩ := h.sizes
  rw [shortC_iff]
  omega
/-! what package conf's functions owe, as propositions. -/
def RightC15 : Prop := ∀ (c : Cf) (p : Cfm), shortC c = true → ∀ (w : World), CfAt w c p → ∀ (q : Bool), rightCf c = q → Calls Tryz.prog 10 #[cfV c p] w fun e w' => e = .returned (.bool q) ∧ Below w.heap.size w w'
/-- Show's answer. -/
structure ShOut (c : Cf) (w : World) (e : Ending) (w' : World) : Prop where
  is : ∃ (s : ByteArray) (n : Int), e = .returned (.tuple #[.string s, .int .i64 n]) ∧ (rightCf c = true → txB s = showP c ∧ n = 0) ∧ (rightCf c = false → n = 1)
  below : Below w.heap.size w w'
def ShowC15 : Prop := ∀ (c : Cf) (p : Cfm), shortC c = true → ∀ (w : World), CfAt w c p → Calls Tryz.prog 7 #[cfV c p] w fun e w' => ShOut c w e w'
/-- Parse's answer. -/
structure PaOut (q : Cf × Int × Int) (w : World) (e : Ending) (w' : World) : Prop where
  is : ∃ p : Cfm, e = .returned (.tuple #[cfV q.1 p, .int .i64 q.2.1, .int .i64 q.2.2]) ∧ CfAt w' q.1 p ∧ FreshM w.heap.size p
  below : Below w.heap.size w w'
def ParseC15 : Prop := ∀ (s : ByteArray), s.size ≤ 100000 → ∀ (q : Cf × Int × Int), parseP (txB s) = q → ∀ (w : World), Tb w → Calls Tryz.prog 8 #[.string s] w fun e w' => PaOut q w e w'
/-- of two that are the same as mathematics, Same says so. -/
def SameC15 : Prop := ∀ (c : Cf) (p q : Cfm), shortC c = true → ∀ (w : World), CfAt w c p → CfAt w c q → Calls Tryz.prog 9 #[cfV c p, cfV c q] w fun e w' => e = .returned (.bool true) ∧ Below w.heap.size w w'
def AwakeC15 : Prop := ∀ w, Tb w → Calls Tryz.prog 5 #[] w fun e w' => e = .returned (.bool true) ∧ Below w.heap.size w w'
end Go.Proofs.YtoghcefamoefpaaGreatDoor

/- The rows of conf: what the listed variables hold; a wrap that keeps the world's shape beside a condition of its own. -/
namespace Go.Proofs.YtoghcefamoefpaaGreatDoor
open Go.ChangeShapes Go.WideShapes Go.ChangeAt Go.RowKit
set_option linter.unusedVariables false
set_option linter.unusedSimpArgs false

section
variable {H : Type} {enc : TypeId × Value → H}
theorem handed_shaped {a : Assume} {C : Checked} {os : Os} {f : FuncId} {fn : Func} {s : ChangeSpec} {conds : List PathCond} {apart fresh handsOn again : Bool} {X : World → Array Value → Prop}
    (hX : ∀ (w w' : World) (args : Array Value), w.heap = w'.heap → X w args → X w' args)
    (own : ownKnob C.prog.godebug = none) (started : os.Started) (noInit : C.prog.inits.idxOf? f = none) (hfn : C.prog.funcs[f]? = some fn)
    (witness : ∃ (w : World) (tape : Tape) (i : Input), w.os = os ∧ (w.forCall tape i).Shaped C.prog ∧ i.vars = [] ∧ Input.okWide C.prog (w.forCall tape i) .any w.heap.size f i ∧
      ((s.pre enc C.prog fn conds apart (w.forCall tape i).memory i.args ∧ X (w.forCall tape i).memory i.args) ∧ sizedMet enc C.prog fn (OpenSpec.ofChange s) apart (w.forCall tape i).memory i.args) ∧ a.holds C.prog (lone (Frame.enter C.prog f i.args .normal) [] (w.forCall tape i)))
    (contract : ∀ (W : World) (base : Nat) (args : Array Value) (ds gs : List (DataW H)) (before : List MemPlace),
      (∀ (j : Nat) t v, fn.params[j]? = some t → args[j]? = some v → Value.okWide C.prog W .any base t v) →
      DataW.Whole enc C.prog fn.params.toList s.vars apart W args.toList ds gs before →
      conds.all (PathCond.test C.prog ⟨fn.params.toList, ds, s.plain.varTypes C.prog, gs⟩) = true → X W args → W.ShapedOpen C.prog →
      Calls C.prog f args W fun e W' => ∃ v, e = .returned v ∧ s.post enc C.prog fn apart fresh handsOn again W args v W') :
    ReturnsInHanded a C os f .any (fun w args => (s.pre enc C.prog fn conds apart w args ∧ X w args) ∧ sizedMet enc C.prog fn (OpenSpec.ofChange s) apart w args) (s.post enc C.prog fn apart fresh handsOn again) := by
  refine returnsInHanded_of_calls own started noInit witness ?_
  intro w tape i _ hsh _ hok hpre _
  obtain ⟨_, _, _, fn', hfn', _, _, _, _, hval⟩ := hok
  have e : fn' = fn := Option.some.inj (hfn'.symm.trans hfn)
  subst e
  obtain ⟨⟨⟨ds, gs, before, hw, hc⟩, hx⟩, _⟩ := hpre
  refine (contract (w.forCall tape i) w.heap.size i.args ds gs before hval (DataW.Whole.of_heap (w' := w.forCall tape i) (by rfl) hw) hc (hX _ _ _ (by rfl) hx) hsh).mono fun e W' ⟨v, he, hp⟩ => ?_
  subst he
  exact ChangeSpec.post_blind hp
end
theorem err_star : "*" ++ "errors.errorString" = "*errors.errorString" := by decide
theorem err_row : ∀ u, Tryz.prog.typeName? 3 u = some "*errors.errorString" → u = 159 := by
  intro u hu
  exact typeName_ptr_named (nm := "errors.errorString") (by rw [err_star]; kernel_rfl) (by kernel_rfl) (by decide) u (by rw [err_star]; exact hu)
theorem err_cell {W : World} {n : String} {text : List UInt8} {r : List (String × DataW Unit)} {g : Nat} (h : laidMet Tryz.prog ((n, .iface "*errors.errorString" (.ptr (.agg [.lit (.string text)]))) :: r) W) (hg : Tryz.prog.globalNamed n = some g) (ht : (Tryz.prog.globals[g]?).map (·.type) = some 48) : ∃ tp p, W.cell? ⟨g, 0, none⟩ = some (.iface tp p) := by
  obtain ⟨a, s, hv, _⟩ := laid_sentinel h hg ht Tryz.underlying48 err_row Tryz.underlying159 Tryz.underlying161 rfl rfl Tryz.underlying9 (by kernel_rfl) (by kernel_rfl)
  exact ⟨_, _, World.var?_cell hg hv 0⟩
set_option maxRecDepth 100000 in
theorem tb_of {W : World} (hL : laidMetH Tryz.prog Rows.confBackRow.laid W) (hsh : W.ShapedOpen Tryz.prog) : Tb W := by
  rw [MakeChecks.laidMetH_plain _ _ _ (by kernel_rfl)] at hL
  have h2 : laidMet Tryz.prog (("internal/strconv.uint64pow10", Lib.tabData .u64 Lib.pow10Tab) :: Rows.confBackRow.laid.drop 3) W := laidMet.tail (laidMet.tail hL)
  have h4 : laidMet Tryz.prog (Rows.confBackRow.laid.drop 4) W := laidMet.tail (laidMet.tail h2)
  have h5 : laidMet Tryz.prog (Rows.confBackRow.laid.drop 5) W := laidMet.tail h4
  exact ⟨cell_of_shapedOpen_int (k := .i64) hsh (by decide +kernel) (zero := #[.int .i64 0]) (t := 3) (by kernel_rfl) rfl (by kernel_rfl) (by kernel_rfl) Tryz.underlying3,
    err_cell h5 (by kernel_rfl) (by kernel_rfl), err_cell h4 (by kernel_rfl) (by kernel_rfl),
    Lib.tabIs_of_head (g := 0) (by kernel_rfl) (by kernel_rfl) Tryz.underlying118 Tryz.underlying92 (by kernel_rfl) (by kernel_rfl) h2⟩
end Go.Proofs.YtoghcefamoefpaaGreatDoor

/- Structs of one-cell fields among the arguments, opened: any number of fields; a packet. No condition. -/
namespace Go.Proofs.YtoghcefamoefpaaGreatDoor
open Go.ChangeShapes Go.WideShapes Go.ChangeAt Go.RowKit
set_option linter.unusedVariables false

section
variable {H : Type} {enc : TypeId × Value → H} {P : Program} {w : World} {base : Nat} {spare : Nat → Bool} {held : Bool}
/-- a struct by value: its cells, each read by its field's type. -/
theorem open_struct {r : Reach} {b0 : Nat} {t : TypeId} {fs : Array Field} {v : Value} {d : DataW H} {ps : List MemPlace} (hs : P.underlying t = some (.struct fs)) (hone : Go.Deep.oneCellFields P fs = true) (hC : P.cellsOf t = fs.size)
    (hv : Value.okWide P w r b0 t v) (h : DataW.Trod enc P w base spare held t v d ps) :
    ∃ cs : List Value, v = .agg cs.toArray ∧ cs.length = fs.size ∧ ∀ (j : Nat) (f : Field) (c : Value), fs[j]? = some f → cs[j]? = some c → ∃ (y : DataW H × List MemPlace) (n : Nat), DataW.trod enc P w base spare held n f.type [c] = some y := by
  obtain ⟨cs, rfl, hsz⟩ := okWide_struct hs hv
  obtain ⟨fuel, hf⟩ := h
  obtain ⟨xs, n, _, hx, _, hlen, hg⟩ := DataW.trod_struct hs hf
  refine ⟨cs.toList, by simp, by simpa using hsz.trans hC, fun j f c hj hc => ?_⟩
  obtain ⟨ho, hk⟩ := Go.Deep.hone_of hone j f hj
  have hjl : j < fs.size := (Array.getElem?_eq_some_iff.1 hj).1
  have hjc : j < cs.size := by rw [hsz, hC]; exact hjl
  have h1 := hg j f hj
  have e : cs.toList[j]? = some cs[j] := by rw [Array.getElem?_toList, Array.getElem?_eq_getElem hjc]
  rw [ho, hk] at h1
  have hone' : ((Value.agg cs).cells.toList.drop j).take 1 = [cs[j]] := by
    show (cs.toList.drop j).take 1 = _
    rw [List.drop_eq_getElem_cons (by simpa using hjc)]
    simp
  rw [hone'] at h1
  obtain rfl := Option.some.inj (hc.symm.trans e)
  exact ⟨xs[j]'(by omega), n, by rw [h1]; exact List.getElem?_eq_getElem (by omega)⟩
/-- a field that is a slice of bytes. -/
theorem bytes_field {t e : TypeId} {n : Nat} {c : Value} {y : DataW H × List MemPlace} (ht : P.underlying t = some (.slice e)) (he : P.underlying e = some (.int .u8)) (hc : P.cellsOf e = 1) (hf : DataW.trod enc P w base spare held n t [c] = some y) :
    ∃ (A : Option Addr) (l : List UInt8) (cp : Nat), c = .slice A l.length cp ∧ l.length ≤ cp ∧ cp ≤ 9223372036854775807 ∧ (A = none → cp = 0) ∧ Bs w w.heap.size A l := by
  rcases open_ints ht he hc hf with ⟨hcs, _⟩ | ⟨a, len', cap', zs, hcs, _, hl, hm, hz, _, hcell, hwz⟩
  · simp at hcs
    subst hcs
    exact ⟨none, [], 0, rfl, by simp, by omega, fun _ => rfl, .inl rfl⟩
  · simp at hcs
    subst hcs
    have hlz : len' ≤ zs.length := by rw [hz]; split <;> omega
    have hll : ((zs.take len').map fun n => UInt8.ofNat n.toNat).length = len' := by simp; omega
    unfold maxLen at hm
    refine ⟨some a, (zs.take len').map fun n => UInt8.ofNat n.toNat, cap', by rw [hll], by omega, by omega, fun h => (by cases h), ?_⟩
    by_cases h0 : len' = 0
    · subst h0; exact .inl (by simp)
    · have hc0 := hcell 0 (by omega)
      have hlt := World.block_lt_of_cell? w _ hc0
      rw [block_add] at hlt
      refine .inr ⟨a, rfl, hlt, fun j b hj => ?_⟩
      rw [List.getElem?_map, Option.map_eq_some_iff] at hj
      obtain ⟨n, hn, rfl⟩ := hj
      rw [List.getElem?_take] at hn
      split at hn
      · rename_i hjl
        have hjz : j < zs.length := by omega
        rw [List.getElem?_eq_getElem hjz] at hn
        obtain rfl := Option.some.inj hn
        rw [hcell j hjz]
        have hw := hwz zs[j] (List.getElem_mem hjz)
        simp only [Lit.wf, Bool.and_eq_true, decide_eq_true_eq] at hw
        have hw0 : 0 ≤ zs[j] ∧ zs[j] ≤ 255 := hw
        have hg : zs.getD j 0 = zs[j] := by simp [List.getD, hjz]
        rw [hg, UInt8.toNat_ofNat_of_lt' (by show _ < 256; omega)]
        congr 2; omega
      · cases hn
theorem int_field {t : TypeId} {k : IntKind} {n : Nat} {c : Value} {y : DataW H × List MemPlace} (ht : P.underlying t = some (.int k)) (hf : DataW.trod enc P w base spare held n t [c] = some y) : ∃ x : Int, c = .int k x ∧ (Lit.int k x).wf = true := by
  obtain ⟨x, h, _, hw⟩ := DataW.trod_int ht hf
  exact ⟨x, by simpa using h, hw⟩
theorem bool_field {t : TypeId} {n : Nat} {c : Value} {y : DataW H × List MemPlace} (ht : P.underlying t = some .bool) (hf : DataW.trod enc P w base spare held n t [c] = some y) : ∃ b : Bool, c = .bool b := by
  obtain ⟨b, h, _⟩ := DataW.trod_bool ht hf
  exact ⟨b, by simpa using h⟩
end
end Go.Proofs.YtoghcefamoefpaaGreatDoor

/- A struct's fields among a law's arguments, of one cell or more. No condition. -/
namespace Go.Proofs.YtoghcefamoefpaaGreatDoor
open Go.ChangeShapes Go.WideShapes Go.ChangeAt Go.RowKit
set_option linter.unusedVariables false

section
variable {H : Type} {enc : TypeId × Value → H} {P : Program} {w : World} {base : Nat} {spare : Nat → Bool} {held : Bool}
/-- a struct's field, of any number of cells. -/
theorem some_field {t ty : TypeId} {fs : Array Field} {n : Nat} {cs : List Value} {x : DataW H × List MemPlace} (hs : P.underlying t = some (.struct fs)) (h : DataW.trod enc P w base spare held n t cs = some x) {j o : Nat}
    (hj : (fs[j]?.map fun f => (f.type, f.offset)) = some (ty, o)) : ∃ (y : DataW H × List MemPlace) (m : Nat), DataW.trod enc P w base spare held m ty ((cs.drop o).take (P.cellsOf ty)) = some y := by
  obtain ⟨xs, m, _, _, _, hlen, hg⟩ := DataW.trod_struct hs h
  rw [Option.map_eq_some_iff] at hj
  obtain ⟨f, hf, he⟩ := hj
  obtain ⟨rfl, rfl⟩ := Prod.mk.inj he
  have hjl : j < fs.size := (Array.getElem?_eq_some_iff.1 hf).1
  exact ⟨xs[j]'(by omega), m, by rw [hg j f hf]; exact List.getElem?_eq_getElem (by omega)⟩
/-- a struct's field of one cell. -/
theorem one_field {t ty : TypeId} {fs : Array Field} {n : Nat} {cs : List Value} {x : DataW H × List MemPlace} (hs : P.underlying t = some (.struct fs)) (h : DataW.trod enc P w base spare held n t cs = some x) {j o : Nat} {c : Value}
    (hj : (fs[j]?.map fun f => (f.type, f.offset)) = some (ty, o)) (hc : P.cellsOf ty = 1) (he : cs[o]? = some c) : ∃ (y : DataW H × List MemPlace) (m : Nat), DataW.trod enc P w base spare held m ty [c] = some y := by
  obtain ⟨y, m, h1⟩ := some_field hs h hj
  obtain ⟨ho, hoe⟩ := List.getElem?_eq_some_iff.1 he
  rw [hc, List.drop_eq_getElem_cons ho] at h1
  exact ⟨y, m, by rw [hoe] at h1; simpa using h1⟩
end
end Go.Proofs.YtoghcefamoefpaaGreatDoor

/- Routes among a law's arguments, opened. No condition. -/
namespace Go.Proofs.YtoghcefamoefpaaGreatDoor
open Go.ChangeShapes Go.WideShapes Go.ChangeAt Go.RowKit
set_option linter.unusedVariables false

theorem Zrt.oneInt : Tryz.prog.cellsOf 3 = 1 := by kernel_rfl
theorem Zrt.oneU32 : Tryz.prog.cellsOf 24 = 1 := by kernel_rfl
theorem Zrt.cells : Tryz.prog.cellsOf 46 = 4 := by kernel_rfl
theorem rtz_fields : ∃ fs : Array Field, Tryz.prog.underlying 46 = some (.struct fs) ∧ (fs[0]?.map fun f => (f.type, f.offset)) = some (24, 0) ∧ (fs[1]?.map fun f => (f.type, f.offset)) = some (3, 1) ∧ (fs[2]?.map fun f => (f.type, f.offset)) = some (3, 2) ∧ (fs[3]?.map fun f => (f.type, f.offset)) = some (3, 3) :=
  ⟨_, Tryz.underlying46, rfl, rfl, rfl, rfl⟩
section
variable {H : Type} {enc : TypeId × Value → H} {w : World} {base : Nat} {spare : Nat → Bool} {held : Bool}
/-- cells that are one. -/
theorem rtz_cells {n : Nat} {cs : List Value} {x : DataW H × List MemPlace} (h : DataW.trod enc Tryz.prog w base spare held n 46 cs = some x) (hl : cs.length = 4) : ∃ r : Rt, RngRt r ∧ cs = rtL r := by
  obtain ⟨fs, hs, t0, t1, t2, t3⟩ := rtz_fields
  match cs, hl with
  | [c0, c1, c2, c3], _ =>
    obtain ⟨_, _, g0⟩ := one_field (c := c0) hs h t0 Zrt.oneU32 rfl
    obtain ⟨net, rfl, w0⟩ := int_field Tryz.underlying24 g0
    obtain ⟨_, _, g1⟩ := one_field (c := c1) hs h t1 Zrt.oneInt rfl
    obtain ⟨bits, rfl, w1⟩ := int_field Tryz.underlying3 g1
    obtain ⟨_, _, g2⟩ := one_field (c := c2) hs h t2 Zrt.oneInt rfl
    obtain ⟨zone, rfl, w2⟩ := int_field Tryz.underlying3 g2
    obtain ⟨_, _, g3⟩ := one_field (c := c3) hs h t3 Zrt.oneInt rfl
    obtain ⟨mtu, rfl, w3⟩ := int_field Tryz.underlying3 g3
    exact ⟨⟨net, bits, zone, mtu⟩, ⟨⟨(bounds_u32 w0).1, (bounds_u32 w0).2⟩⟩, rfl⟩
instance : Inhabited Rt := ⟨⟨0, 0, 0, 0⟩⟩
theorem rtzs_field {n : Nat} {c : Value} {y : DataW H × List MemPlace} (hf : DataW.trod enc Tryz.prog w base spare held n 22 [c] = some y) :
    ∃ (A : Option Addr) (l : List Rt) (cp : Nat), c = .slice A l.length cp ∧ RtsAt w l A cp := by
  rcases Go.Deep.open_slice Tryz.underlying22 hf with ⟨hcs, _⟩ | ⟨a, len, cap, m, n', D, Pl, hcs, hb', hl, hm, hmm, hx, hi⟩
  · simp at hcs
    subst hcs
    exact ⟨none, [], 0, rfl, ⟨by simp, by omega, fun _ => rfl, .inl rfl, fun r h => by cases h⟩⟩
  · simp at hcs
    subst hcs
    unfold maxLen at hm
    have hlm : len ≤ m := by rw [hmm]; split <;> omega
    have one : ∀ i, i < len → ∃ o : Rt, RngRt o ∧ ∀ j v, (rtL o)[j]? = some v → w.cell? (a.add (i * 4 + j)) = some v := by
      intro i hil
      obtain ⟨cs', hc, ht'⟩ := hi i (by omega)
      rw [Zrt.cells] at hc
      obtain ⟨_, hcl, hat⟩ := World.cells?_some hc
      obtain ⟨o, ro, rfl⟩ := rtz_cells ht' hcl
      refine ⟨o, ro, fun j v hv => ?_⟩
      have hj : j < 4 := by have := (List.getElem?_eq_some_iff.1 hv).1; simpa using this
      rw [← Go.Deep.add_add, hat j hj, hv]
    obtain ⟨f, hf⟩ := Go.Deep.choose_lt one
    have hlen : ((List.range len).map f).length = len := by simp
    have hget : ∀ i, i < len → ((List.range len).map f)[i]? = some (f i) := fun i hi => by simp [hi]
    refine ⟨some a, (List.range len).map f, cap, by simp, ⟨by simpa using hl, by omega, (fun h => by cases h), ?_, fun r hr => ?_⟩⟩
    · refine .inr ⟨a, rfl, fun j u hj => ?_⟩
      have hjl := (List.getElem?_eq_some_iff.1 hj).1
      rw [flat_len Rt.L 4 Rt.len, hlen] at hjl
      have hq : j / 4 < len := by omega
      have hr : j % 4 < 4 := by omega
      have e : j = j / 4 * 4 + j % 4 := by omega
      rw [e, flat_get Rt.L 4 Rt.len _ _ _ (by rw [hlen]; exact hq) hr] at hj
      have hg := hget _ hq
      rw [List.getElem?_eq_getElem (by rw [hlen]; exact hq)] at hg
      injection hg with hg
      rw [hg] at hj
      rw [e]
      exact (hf _ hq).2 _ _ hj
    · obtain ⟨i, hi, rfl⟩ := List.mem_map.1 hr
      exact (hf i (List.mem_range.1 hi)).1
end
set_option maxRecDepth 100000 in
/-- a row that came in. -/
theorem open_rts {H : Type} {enc : TypeId × Value → H} {w : World} {base : Nat} {spare : Nat → Bool} {held : Bool} {r : Reach} {b0 : Nat} {v : Value} {d : DataW H} {ps : List MemPlace}
    (hv : Value.okWide Tryz.prog w r b0 22 v) (h : DataW.Trod enc Tryz.prog w base spare held 22 v d ps) :
    ∃ (A : Option Addr) (l : List Rt) (c : Nat), v = .slice A l.length c ∧ RtsAt w l A c := by
  obtain ⟨a0, len, cap, rfl⟩ := okWide_slice Tryz.underlying22 hv
  obtain ⟨fuel, hf⟩ := h
  have hf' : DataW.trod enc Tryz.prog w base spare held fuel 22 [.slice a0 len cap] = some (d, ps) := by simpa [Value.cells] using hf
  exact rtzs_field hf'
set_option maxRecDepth 100000 in
theorem rtz_one : ∃ fs : Array Field, Tryz.prog.underlying 46 = some (.struct fs) ∧ Go.Deep.oneCellFields Tryz.prog fs = true ∧ Tryz.prog.cellsOf 46 = fs.size ∧ fs.size = 4 ∧
    (fs[0]?.map (·.type)) = some 24 ∧ (fs[1]?.map (·.type)) = some 3 ∧ (fs[2]?.map (·.type)) = some 3 ∧ (fs[3]?.map (·.type)) = some 3 :=
  ⟨_, Tryz.underlying46, by kernel_rfl, by kernel_rfl, rfl, rfl, rfl, rfl, rfl⟩
set_option maxRecDepth 100000 in
/-- one that came in. -/
theorem open_rt {H : Type} {enc : TypeId × Value → H} {w : World} {base : Nat} {spare : Nat → Bool} {held : Bool} {r : Reach} {b0 : Nat} {v : Value} {d : DataW H} {ps : List MemPlace}
    (hv : Value.okWide Tryz.prog w r b0 46 v) (h : DataW.Trod enc Tryz.prog w base spare held 46 v d ps) :
    ∃ t : Rt, v = rtV t ∧ RngRt t := by
  obtain ⟨fs, hs, hone, hC, h5, t0, t1, t2, t3⟩ := rtz_one
  obtain ⟨cs, rfl, hl, hf⟩ := open_struct hs hone hC hv h
  rw [h5] at hl
  match cs, hl with
  | [c0, c1, c2, c3], _ =>
    obtain ⟨f0, e0, y0⟩ := Option.map_eq_some_iff.1 t0
    obtain ⟨_, _, g0⟩ := hf 0 f0 c0 e0 rfl
    rw [y0] at g0
    obtain ⟨net, rfl, w0⟩ := int_field Tryz.underlying24 g0
    obtain ⟨f1, e1, y1⟩ := Option.map_eq_some_iff.1 t1
    obtain ⟨_, _, g1⟩ := hf 1 f1 c1 e1 rfl
    rw [y1] at g1
    obtain ⟨bits, rfl, w1⟩ := int_field Tryz.underlying3 g1
    obtain ⟨f2, e2, y2⟩ := Option.map_eq_some_iff.1 t2
    obtain ⟨_, _, g2⟩ := hf 2 f2 c2 e2 rfl
    rw [y2] at g2
    obtain ⟨zone, rfl, w2⟩ := int_field Tryz.underlying3 g2
    obtain ⟨f3, e3, y3⟩ := Option.map_eq_some_iff.1 t3
    obtain ⟨_, _, g3⟩ := hf 3 f3 c3 e3 rfl
    rw [y3] at g3
    obtain ⟨mtu, rfl, w3⟩ := int_field Tryz.underlying3 g3
    exact ⟨⟨net, bits, zone, mtu⟩, rfl, ⟨⟨(bounds_u32 w0).1, (bounds_u32 w0).2⟩⟩⟩
end Go.Proofs.YtoghcefamoefpaaGreatDoor

/- Rules among a law's arguments, opened. No condition. -/
namespace Go.Proofs.YtoghcefamoefpaaGreatDoor
open Go.ChangeShapes Go.WideShapes Go.ChangeAt Go.RowKit
set_option linter.unusedVariables false

theorem Zru.oneInt : Tryz.prog.cellsOf 3 = 1 := by kernel_rfl
theorem Zru.oneU32 : Tryz.prog.cellsOf 24 = 1 := by kernel_rfl
theorem Zru.cells : Tryz.prog.cellsOf 54 = 10 := by kernel_rfl
theorem ruz_fields : ∃ fs : Array Field, Tryz.prog.underlying 54 = some (.struct fs) ∧ (fs[0]?.map fun f => (f.type, f.offset)) = some (3, 0) ∧ (fs[1]?.map fun f => (f.type, f.offset)) = some (3, 1) ∧ (fs[2]?.map fun f => (f.type, f.offset)) = some (3, 2) ∧ (fs[3]?.map fun f => (f.type, f.offset)) = some (24, 3) ∧ (fs[4]?.map fun f => (f.type, f.offset)) = some (24, 4) ∧ (fs[5]?.map fun f => (f.type, f.offset)) = some (3, 5) ∧ (fs[6]?.map fun f => (f.type, f.offset)) = some (3, 6) ∧ (fs[7]?.map fun f => (f.type, f.offset)) = some (3, 7) ∧ (fs[8]?.map fun f => (f.type, f.offset)) = some (3, 8) ∧ (fs[9]?.map fun f => (f.type, f.offset)) = some (3, 9) :=
  ⟨_, Tryz.underlying54, rfl, rfl, rfl, rfl, rfl, rfl, rfl, rfl, rfl, rfl⟩
section
variable {H : Type} {enc : TypeId × Value → H} {w : World} {base : Nat} {spare : Nat → Bool} {held : Bool}
/-- cells that are one. -/
theorem ruz_cells {n : Nat} {cs : List Value} {x : DataW H × List MemPlace} (h : DataW.trod enc Tryz.prog w base spare held n 54 cs = some x) (hl : cs.length = 10) : ∃ r : Ru, RngRu r ∧ cs = ruL r := by
  obtain ⟨fs, hs, t0, t1, t2, t3, t4, t5, t6, t7, t8, t9⟩ := ruz_fields
  match cs, hl with
  | [c0, c1, c2, c3, c4, c5, c6, c7, c8, c9], _ =>
    obtain ⟨_, _, g0⟩ := one_field (c := c0) hs h t0 Zru.oneInt rfl
    obtain ⟨fr, rfl, w0⟩ := int_field Tryz.underlying3 g0
    obtain ⟨_, _, g1⟩ := one_field (c := c1) hs h t1 Zru.oneInt rfl
    obtain ⟨to_, rfl, w1⟩ := int_field Tryz.underlying3 g1
    obtain ⟨_, _, g2⟩ := one_field (c := c2) hs h t2 Zru.oneInt rfl
    obtain ⟨proto, rfl, w2⟩ := int_field Tryz.underlying3 g2
    obtain ⟨_, _, g3⟩ := one_field (c := c3) hs h t3 Zru.oneU32 rfl
    obtain ⟨src, rfl, w3⟩ := int_field Tryz.underlying24 g3
    obtain ⟨_, _, g4⟩ := one_field (c := c4) hs h t4 Zru.oneU32 rfl
    obtain ⟨dst, rfl, w4⟩ := int_field Tryz.underlying24 g4
    obtain ⟨_, _, g5⟩ := one_field (c := c5) hs h t5 Zru.oneInt rfl
    obtain ⟨sbits, rfl, w5⟩ := int_field Tryz.underlying3 g5
    obtain ⟨_, _, g6⟩ := one_field (c := c6) hs h t6 Zru.oneInt rfl
    obtain ⟨dbits, rfl, w6⟩ := int_field Tryz.underlying3 g6
    obtain ⟨_, _, g7⟩ := one_field (c := c7) hs h t7 Zru.oneInt rfl
    obtain ⟨lo, rfl, w7⟩ := int_field Tryz.underlying3 g7
    obtain ⟨_, _, g8⟩ := one_field (c := c8) hs h t8 Zru.oneInt rfl
    obtain ⟨hi, rfl, w8⟩ := int_field Tryz.underlying3 g8
    obtain ⟨_, _, g9⟩ := one_field (c := c9) hs h t9 Zru.oneInt rfl
    obtain ⟨act, rfl, w9⟩ := int_field Tryz.underlying3 g9
    exact ⟨⟨fr, to_, proto, src, dst, sbits, dbits, lo, hi, act⟩, ⟨⟨(bounds_u32 w3).1, (bounds_u32 w3).2⟩, ⟨(bounds_u32 w4).1, (bounds_u32 w4).2⟩⟩, rfl⟩
instance : Inhabited Ru := ⟨⟨0, 0, 0, 0, 0, 0, 0, 0, 0, 0⟩⟩
theorem ruzs_field {n : Nat} {c : Value} {y : DataW H × List MemPlace} (hf : DataW.trod enc Tryz.prog w base spare held n 23 [c] = some y) :
    ∃ (A : Option Addr) (l : List Ru) (cp : Nat), c = .slice A l.length cp ∧ RusAt w l A cp := by
  rcases Go.Deep.open_slice Tryz.underlying23 hf with ⟨hcs, _⟩ | ⟨a, len, cap, m, n', D, Pl, hcs, hb', hl, hm, hmm, hx, hi⟩
  · simp at hcs
    subst hcs
    exact ⟨none, [], 0, rfl, ⟨by simp, by omega, fun _ => rfl, .inl rfl, fun r h => by cases h⟩⟩
  · simp at hcs
    subst hcs
    unfold maxLen at hm
    have hlm : len ≤ m := by rw [hmm]; split <;> omega
    have one : ∀ i, i < len → ∃ o : Ru, RngRu o ∧ ∀ j v, (ruL o)[j]? = some v → w.cell? (a.add (i * 10 + j)) = some v := by
      intro i hil
      obtain ⟨cs', hc, ht'⟩ := hi i (by omega)
      rw [Zru.cells] at hc
      obtain ⟨_, hcl, hat⟩ := World.cells?_some hc
      obtain ⟨o, ro, rfl⟩ := ruz_cells ht' hcl
      refine ⟨o, ro, fun j v hv => ?_⟩
      have hj : j < 10 := by have := (List.getElem?_eq_some_iff.1 hv).1; simpa using this
      rw [← Go.Deep.add_add, hat j hj, hv]
    obtain ⟨f, hf⟩ := Go.Deep.choose_lt one
    have hlen : ((List.range len).map f).length = len := by simp
    have hget : ∀ i, i < len → ((List.range len).map f)[i]? = some (f i) := fun i hi => by simp [hi]
    refine ⟨some a, (List.range len).map f, cap, by simp, ⟨by simpa using hl, by omega, (fun h => by cases h), ?_, fun r hr => ?_⟩⟩
    · refine .inr ⟨a, rfl, fun j u hj => ?_⟩
      have hjl := (List.getElem?_eq_some_iff.1 hj).1
      rw [flat_len Ru.L 10 Ru.len, hlen] at hjl
      have hq : j / 10 < len := by omega
      have hr : j % 10 < 10 := by omega
      have e : j = j / 10 * 10 + j % 10 := by omega
      rw [e, flat_get Ru.L 10 Ru.len _ _ _ (by rw [hlen]; exact hq) hr] at hj
      have hg := hget _ hq
      rw [List.getElem?_eq_getElem (by rw [hlen]; exact hq)] at hg
      injection hg with hg
      rw [hg] at hj
      rw [e]
      exact (hf _ hq).2 _ _ hj
    · obtain ⟨i, hi, rfl⟩ := List.mem_map.1 hr
      exact (hf i (List.mem_range.1 hi)).1
end
set_option maxRecDepth 100000 in
/-- a row that came in. -/
theorem open_rus {H : Type} {enc : TypeId × Value → H} {w : World} {base : Nat} {spare : Nat → Bool} {held : Bool} {r : Reach} {b0 : Nat} {v : Value} {d : DataW H} {ps : List MemPlace}
    (hv : Value.okWide Tryz.prog w r b0 23 v) (h : DataW.Trod enc Tryz.prog w base spare held 23 v d ps) :
    ∃ (A : Option Addr) (l : List Ru) (c : Nat), v = .slice A l.length c ∧ RusAt w l A c := by
  obtain ⟨a0, len, cap, rfl⟩ := okWide_slice Tryz.underlying23 hv
  obtain ⟨fuel, hf⟩ := h
  have hf' : DataW.trod enc Tryz.prog w base spare held fuel 23 [.slice a0 len cap] = some (d, ps) := by simpa [Value.cells] using hf
  exact ruzs_field hf'
set_option maxRecDepth 100000 in
theorem ruz_one : ∃ fs : Array Field, Tryz.prog.underlying 54 = some (.struct fs) ∧ Go.Deep.oneCellFields Tryz.prog fs = true ∧ Tryz.prog.cellsOf 54 = fs.size ∧ fs.size = 10 ∧
    (fs[0]?.map (·.type)) = some 3 ∧ (fs[1]?.map (·.type)) = some 3 ∧ (fs[2]?.map (·.type)) = some 3 ∧ (fs[3]?.map (·.type)) = some 24 ∧ (fs[4]?.map (·.type)) = some 24 ∧ (fs[5]?.map (·.type)) = some 3 ∧ (fs[6]?.map (·.type)) = some 3 ∧ (fs[7]?.map (·.type)) = some 3 ∧ (fs[8]?.map (·.type)) = some 3 ∧ (fs[9]?.map (·.type)) = some 3 :=
  ⟨_, Tryz.underlying54, by kernel_rfl, by kernel_rfl, rfl, rfl, rfl, rfl, rfl, rfl, rfl, rfl, rfl, rfl, rfl⟩
set_option maxRecDepth 100000 in
/-- one that came in. -/
theorem open_ru {H : Type} {enc : TypeId × Value → H} {w : World} {base : Nat} {spare : Nat → Bool} {held : Bool} {r : Reach} {b0 : Nat} {v : Value} {d : DataW H} {ps : List MemPlace}
    (hv : Value.okWide Tryz.prog w r b0 54 v) (h : DataW.Trod enc Tryz.prog w base spare held 54 v d ps) :
    ∃ t : Ru, v = ruV t ∧ RngRu t := by
  obtain ⟨fs, hs, hone, hC, h5, t0, t1, t2, t3, t4, t5, t6, t7, t8, t9⟩ := ruz_one
  obtain ⟨cs, rfl, hl, hf⟩ := open_struct hs hone hC hv h
  rw [h5] at hl
  match cs, hl with
  | [c0, c1, c2, c3, c4, c5, c6, c7, c8, c9], _ =>
    obtain ⟨f0, e0, y0⟩ := Option.map_eq_some_iff.1 t0
    obtain ⟨_, _, g0⟩ := hf 0 f0 c0 e0 rfl
    rw [y0] at g0
    obtain ⟨fr, rfl, w0⟩ := int_field Tryz.underlying3 g0
    obtain ⟨f1, e1, y1⟩ := Option.map_eq_some_iff.1 t1
    obtain ⟨_, _, g1⟩ := hf 1 f1 c1 e1 rfl
    rw [y1] at g1
    obtain ⟨to_, rfl, w1⟩ := int_field Tryz.underlying3 g1
    obtain ⟨f2, e2, y2⟩ := Option.map_eq_some_iff.1 t2
    obtain ⟨_, _, g2⟩ := hf 2 f2 c2 e2 rfl
    rw [y2] at g2
    obtain ⟨proto, rfl, w2⟩ := int_field Tryz.underlying3 g2
    obtain ⟨f3, e3, y3⟩ := Option.map_eq_some_iff.1 t3
    obtain ⟨_, _, g3⟩ := hf 3 f3 c3 e3 rfl
    rw [y3] at g3
    obtain ⟨src, rfl, w3⟩ := int_field Tryz.underlying24 g3
    obtain ⟨f4, e4, y4⟩ := Option.map_eq_some_iff.1 t4
    obtain ⟨_, _, g4⟩ := hf 4 f4 c4 e4 rfl
    rw [y4] at g4
    obtain ⟨dst, rfl, w4⟩ := int_field Tryz.underlying24 g4
    obtain ⟨f5, e5, y5⟩ := Option.map_eq_some_iff.1 t5
    obtain ⟨_, _, g5⟩ := hf 5 f5 c5 e5 rfl
    rw [y5] at g5
    obtain ⟨sbits, rfl, w5⟩ := int_field Tryz.underlying3 g5
    obtain ⟨f6, e6, y6⟩ := Option.map_eq_some_iff.1 t6
    obtain ⟨_, _, g6⟩ := hf 6 f6 c6 e6 rfl
    rw [y6] at g6
    obtain ⟨dbits, rfl, w6⟩ := int_field Tryz.underlying3 g6
    obtain ⟨f7, e7, y7⟩ := Option.map_eq_some_iff.1 t7
    obtain ⟨_, _, g7⟩ := hf 7 f7 c7 e7 rfl
    rw [y7] at g7
    obtain ⟨lo, rfl, w7⟩ := int_field Tryz.underlying3 g7
    obtain ⟨f8, e8, y8⟩ := Option.map_eq_some_iff.1 t8
    obtain ⟨_, _, g8⟩ := hf 8 f8 c8 e8 rfl
    rw [y8] at g8
    obtain ⟨hi, rfl, w8⟩ := int_field Tryz.underlying3 g8
    obtain ⟨f9, e9, y9⟩ := Option.map_eq_some_iff.1 t9
    obtain ⟨_, _, g9⟩ := hf 9 f9 c9 e9 rfl
    rw [y9] at g9
    obtain ⟨act, rfl, w9⟩ := int_field Tryz.underlying3 g9
    exact ⟨⟨fr, to_, proto, src, dst, sbits, dbits, lo, hi, act⟩, rfl, ⟨⟨(bounds_u32 w3).1, (bounds_u32 w3).2⟩, ⟨(bounds_u32 w4).1, (bounds_u32 w4).2⟩⟩⟩
end Go.Proofs.YtoghcefamoefpaaGreatDoor

/- Forwards among a law's arguments, opened. No condition. -/
namespace Go.Proofs.YtoghcefamoefpaaGreatDoor
open Go.ChangeShapes Go.WideShapes Go.ChangeAt Go.RowKit
set_option linter.unusedVariables false

theorem Zfw.oneInt : Tryz.prog.cellsOf 3 = 1 := by kernel_rfl
theorem Zfw.oneU32 : Tryz.prog.cellsOf 24 = 1 := by kernel_rfl
theorem Zfw.oneBool : Tryz.prog.cellsOf 4 = 1 := by kernel_rfl
theorem Zfw.cells : Tryz.prog.cellsOf 40 = 5 := by kernel_rfl
theorem fwz_fields : ∃ fs : Array Field, Tryz.prog.underlying 40 = some (.struct fs) ∧ (fs[0]?.map fun f => (f.type, f.offset)) = some (3, 0) ∧ (fs[1]?.map fun f => (f.type, f.offset)) = some (3, 1) ∧ (fs[2]?.map fun f => (f.type, f.offset)) = some (24, 2) ∧ (fs[3]?.map fun f => (f.type, f.offset)) = some (3, 3) ∧ (fs[4]?.map fun f => (f.type, f.offset)) = some (4, 4) :=
  ⟨_, Tryz.underlying40, rfl, rfl, rfl, rfl, rfl⟩
section
variable {H : Type} {enc : TypeId × Value → H} {w : World} {base : Nat} {spare : Nat → Bool} {held : Bool}
/-- cells that are one. -/
theorem fwz_cells {n : Nat} {cs : List Value} {x : DataW H × List MemPlace} (h : DataW.trod enc Tryz.prog w base spare held n 40 cs = some x) (hl : cs.length = 5) : ∃ r : Fw, RngFw r ∧ cs = fwL r := by
  obtain ⟨fs, hs, t0, t1, t2, t3, t4⟩ := fwz_fields
  match cs, hl with
  | [c0, c1, c2, c3, c4], _ =>
    obtain ⟨_, _, g0⟩ := one_field (c := c0) hs h t0 Zfw.oneInt rfl
    obtain ⟨proto, rfl, w0⟩ := int_field Tryz.underlying3 g0
    obtain ⟨_, _, g1⟩ := one_field (c := c1) hs h t1 Zfw.oneInt rfl
    obtain ⟨port, rfl, w1⟩ := int_field Tryz.underlying3 g1
    obtain ⟨_, _, g2⟩ := one_field (c := c2) hs h t2 Zfw.oneU32 rfl
    obtain ⟨addr, rfl, w2⟩ := int_field Tryz.underlying24 g2
    obtain ⟨_, _, g3⟩ := one_field (c := c3) hs h t3 Zfw.oneInt rfl
    obtain ⟨to_, rfl, w3⟩ := int_field Tryz.underlying3 g3
    obtain ⟨_, _, g4⟩ := one_field (c := c4) hs h t4 Zfw.oneBool rfl
    obtain ⟨proxy, rfl⟩ := bool_field Tryz.underlying4 g4
    exact ⟨⟨proto, port, addr, to_, proxy⟩, ⟨⟨(bounds_u32 w2).1, (bounds_u32 w2).2⟩⟩, rfl⟩
instance : Inhabited Fw := ⟨⟨0, 0, 0, 0, false⟩⟩
theorem fwzs_field {n : Nat} {c : Value} {y : DataW H × List MemPlace} (hf : DataW.trod enc Tryz.prog w base spare held n 25 [c] = some y) :
    ∃ (A : Option Addr) (l : List Fw) (cp : Nat), c = .slice A l.length cp ∧ FwsAt w l A cp := by
  rcases Go.Deep.open_slice Tryz.underlying25 hf with ⟨hcs, _⟩ | ⟨a, len, cap, m, n', D, Pl, hcs, hb', hl, hm, hmm, hx, hi⟩
  · simp at hcs
    subst hcs
    exact ⟨none, [], 0, rfl, ⟨by simp, by omega, fun _ => rfl, .inl rfl, fun r h => by cases h⟩⟩
  · simp at hcs
    subst hcs
    unfold maxLen at hm
    have hlm : len ≤ m := by rw [hmm]; split <;> omega
    have one : ∀ i, i < len → ∃ o : Fw, RngFw o ∧ ∀ j v, (fwL o)[j]? = some v → w.cell? (a.add (i * 5 + j)) = some v := by
      intro i hil
      obtain ⟨cs', hc, ht'⟩ := hi i (by omega)
      rw [Zfw.cells] at hc
      obtain ⟨_, hcl, hat⟩ := World.cells?_some hc
      obtain ⟨o, ro, rfl⟩ := fwz_cells ht' hcl
      refine ⟨o, ro, fun j v hv => ?_⟩
      have hj : j < 5 := by have := (List.getElem?_eq_some_iff.1 hv).1; simpa using this
      rw [← Go.Deep.add_add, hat j hj, hv]
    obtain ⟨f, hf⟩ := Go.Deep.choose_lt one
    have hlen : ((List.range len).map f).length = len := by simp
    have hget : ∀ i, i < len → ((List.range len).map f)[i]? = some (f i) := fun i hi => by simp [hi]
    refine ⟨some a, (List.range len).map f, cap, by simp, ⟨by simpa using hl, by omega, (fun h => by cases h), ?_, fun r hr => ?_⟩⟩
    · refine .inr ⟨a, rfl, fun j u hj => ?_⟩
      have hjl := (List.getElem?_eq_some_iff.1 hj).1
      rw [flat_len Fw.L 5 Fw.len, hlen] at hjl
      have hq : j / 5 < len := by omega
      have hr : j % 5 < 5 := by omega
      have e : j = j / 5 * 5 + j % 5 := by omega
      rw [e, flat_get Fw.L 5 Fw.len _ _ _ (by rw [hlen]; exact hq) hr] at hj
      have hg := hget _ hq
      rw [List.getElem?_eq_getElem (by rw [hlen]; exact hq)] at hg
      injection hg with hg
      rw [hg] at hj
      rw [e]
      exact (hf _ hq).2 _ _ hj
    · obtain ⟨i, hi, rfl⟩ := List.mem_map.1 hr
      exact (hf i (List.mem_range.1 hi)).1
end
set_option maxRecDepth 100000 in
/-- a row that came in. -/
theorem open_fws {H : Type} {enc : TypeId × Value → H} {w : World} {base : Nat} {spare : Nat → Bool} {held : Bool} {r : Reach} {b0 : Nat} {v : Value} {d : DataW H} {ps : List MemPlace}
    (hv : Value.okWide Tryz.prog w r b0 25 v) (h : DataW.Trod enc Tryz.prog w base spare held 25 v d ps) :
    ∃ (A : Option Addr) (l : List Fw) (c : Nat), v = .slice A l.length c ∧ FwsAt w l A c := by
  obtain ⟨a0, len, cap, rfl⟩ := okWide_slice Tryz.underlying25 hv
  obtain ⟨fuel, hf⟩ := h
  have hf' : DataW.trod enc Tryz.prog w base spare held fuel 25 [.slice a0 len cap] = some (d, ps) := by simpa [Value.cells] using hf
  exact fwzs_field hf'
set_option maxRecDepth 100000 in
theorem fwz_one : ∃ fs : Array Field, Tryz.prog.underlying 40 = some (.struct fs) ∧ Go.Deep.oneCellFields Tryz.prog fs = true ∧ Tryz.prog.cellsOf 40 = fs.size ∧ fs.size = 5 ∧
    (fs[0]?.map (·.type)) = some 3 ∧ (fs[1]?.map (·.type)) = some 3 ∧ (fs[2]?.map (·.type)) = some 24 ∧ (fs[3]?.map (·.type)) = some 3 ∧ (fs[4]?.map (·.type)) = some 4 :=
  ⟨_, Tryz.underlying40, by kernel_rfl, by kernel_rfl, rfl, rfl, rfl, rfl, rfl, rfl⟩
set_option maxRecDepth 100000 in
/-- one that came in. -/
theorem open_fw {H : Type} {enc : TypeId × Value → H} {w : World} {base : Nat} {spare : Nat → Bool} {held : Bool} {r : Reach} {b0 : Nat} {v : Value} {d : DataW H} {ps : List MemPlace}
    (hv : Value.okWide Tryz.prog w r b0 40 v) (h : DataW.Trod enc Tryz.prog w base spare held 40 v d ps) :
    ∃ t : Fw, v = fwV t ∧ RngFw t := by
  obtain ⟨fs, hs, hone, hC, h5, t0, t1, t2, t3, t4⟩ := fwz_one
  obtain ⟨cs, rfl, hl, hf⟩ := open_struct hs hone hC hv h
  rw [h5] at hl
  match cs, hl with
  | [c0, c1, c2, c3, c4], _ =>
    obtain ⟨f0, e0, y0⟩ := Option.map_eq_some_iff.1 t0
    obtain ⟨_, _, g0⟩ := hf 0 f0 c0 e0 rfl
    rw [y0] at g0
    obtain ⟨proto, rfl, w0⟩ := int_field Tryz.underlying3 g0
    obtain ⟨f1, e1, y1⟩ := Option.map_eq_some_iff.1 t1
    obtain ⟨_, _, g1⟩ := hf 1 f1 c1 e1 rfl
    rw [y1] at g1
    obtain ⟨port, rfl, w1⟩ := int_field Tryz.underlying3 g1
    obtain ⟨f2, e2, y2⟩ := Option.map_eq_some_iff.1 t2
    obtain ⟨_, _, g2⟩ := hf 2 f2 c2 e2 rfl
    rw [y2] at g2
    obtain ⟨addr, rfl, w2⟩ := int_field Tryz.underlying24 g2
    obtain ⟨f3, e3, y3⟩ := Option.map_eq_some_iff.1 t3
    obtain ⟨_, _, g3⟩ := hf 3 f3 c3 e3 rfl
    rw [y3] at g3
    obtain ⟨to_, rfl, w3⟩ := int_field Tryz.underlying3 g3
    obtain ⟨f4, e4, y4⟩ := Option.map_eq_some_iff.1 t4
    obtain ⟨_, _, g4⟩ := hf 4 f4 c4 e4 rfl
    rw [y4] at g4
    obtain ⟨proxy, rfl⟩ := bool_field Tryz.underlying4 g4
    exact ⟨⟨proto, port, addr, to_, proxy⟩, rfl, ⟨⟨(bounds_u32 w2).1, (bounds_u32 w2).2⟩⟩⟩
end Go.Proofs.YtoghcefamoefpaaGreatDoor

/- A configuration among a law's arguments, opened. No condition. -/
namespace Go.Proofs.YtoghcefamoefpaaGreatDoor
open Go.ChangeShapes Go.WideShapes Go.ChangeAt Go.RowKit
set_option linter.unusedVariables false

set_option maxRecDepth 100000 in
theorem cf_one : ∃ fs : Array Field, Tryz.prog.underlying 27 = some (.struct fs) ∧ Go.Deep.oneCellFields Tryz.prog fs = true ∧ Tryz.prog.cellsOf 27 = fs.size ∧ fs.size = 10 ∧
    (fs[0]?.map (·.type)) = some 22 ∧ (fs[1]?.map (·.type)) = some 23 ∧ (fs[2]?.map (·.type)) = some 3 ∧ (fs[3]?.map (·.type)) = some 24 ∧ (fs[4]?.map (·.type)) = some 3 ∧ (fs[5]?.map (·.type)) = some 3 ∧ (fs[6]?.map (·.type)) = some 25 ∧ (fs[7]?.map (·.type)) = some 3 ∧ (fs[8]?.map (·.type)) = some 3 ∧ (fs[9]?.map (·.type)) = some 3 :=
  ⟨_, Tryz.underlying27, by kernel_rfl, by kernel_rfl, rfl, rfl, rfl, rfl, rfl, rfl, rfl, rfl, rfl, rfl, rfl⟩
set_option maxRecDepth 100000 in
/-- one that came in. -/
theorem open_cf {H : Type} {enc : TypeId × Value → H} {w : World} {base : Nat} {spare : Nat → Bool} {held : Bool} {r : Reach} {b0 : Nat} {v : Value} {d : DataW H} {ps : List MemPlace}
    (hv : Value.okWide Tryz.prog w r b0 27 v) (h : DataW.Trod enc Tryz.prog w base spare held 27 v d ps) (htb : Tb w) :
    ∃ (c : Cf) (p : Cfm), v = cfV c p ∧ CfAt w c p := by
  obtain ⟨fs, hs, hone, hC, h5, t0, t1, t2, t3, t4, t5, t6, t7, t8, t9⟩ := cf_one
  obtain ⟨cs, rfl, hl, hf⟩ := open_struct hs hone hC hv h
  rw [h5] at hl
  match cs, hl with
  | [c0, c1, c2, c3, c4, c5, c6, c7, c8, c9], _ =>
    obtain ⟨f0, e0, y0⟩ := Option.map_eq_some_iff.1 t0
    obtain ⟨_, _, g0⟩ := hf 0 f0 c0 e0 rfl
    rw [y0] at g0
    obtain ⟨A1, l1, k1, rfl, r1⟩ := rtzs_field g0
    obtain ⟨f1, e1, y1⟩ := Option.map_eq_some_iff.1 t1
    obtain ⟨_, _, g1⟩ := hf 1 f1 c1 e1 rfl
    rw [y1] at g1
    obtain ⟨A2, l2, k2, rfl, r2⟩ := ruzs_field g1
    obtain ⟨f2, e2, y2⟩ := Option.map_eq_some_iff.1 t2
    obtain ⟨_, _, g2⟩ := hf 2 f2 c2 e2 rfl
    rw [y2] at g2
    obtain ⟨outside, rfl, _⟩ := int_field Tryz.underlying3 g2
    obtain ⟨f3, e3, y3⟩ := Option.map_eq_some_iff.1 t3
    obtain ⟨_, _, g3⟩ := hf 3 f3 c3 e3 rfl
    rw [y3] at g3
    obtain ⟨pub, rfl, w3⟩ := int_field Tryz.underlying24 g3
    obtain ⟨f4, e4, y4⟩ := Option.map_eq_some_iff.1 t4
    obtain ⟨_, _, g4⟩ := hf 4 f4 c4 e4 rfl
    rw [y4] at g4
    obtain ⟨lo, rfl, _⟩ := int_field Tryz.underlying3 g4
    obtain ⟨f5, e5, y5⟩ := Option.map_eq_some_iff.1 t5
    obtain ⟨_, _, g5⟩ := hf 5 f5 c5 e5 rfl
    rw [y5] at g5
    obtain ⟨hi, rfl, _⟩ := int_field Tryz.underlying3 g5
    obtain ⟨f6, e6, y6⟩ := Option.map_eq_some_iff.1 t6
    obtain ⟨_, _, g6⟩ := hf 6 f6 c6 e6 rfl
    rw [y6] at g6
    obtain ⟨A3, l3, k3, rfl, r3⟩ := fwzs_field g6
    obtain ⟨f7, e7, y7⟩ := Option.map_eq_some_iff.1 t7
    obtain ⟨_, _, g7⟩ := hf 7 f7 c7 e7 rfl
    rw [y7] at g7
    obtain ⟨tcp, rfl, _⟩ := int_field Tryz.underlying3 g7
    obtain ⟨f8, e8, y8⟩ := Option.map_eq_some_iff.1 t8
    obtain ⟨_, _, g8⟩ := hf 8 f8 c8 e8 rfl
    rw [y8] at g8
    obtain ⟨other, rfl, _⟩ := int_field Tryz.underlying3 g8
    obtain ⟨f9, e9, y9⟩ := Option.map_eq_some_iff.1 t9
    obtain ⟨_, _, g9⟩ := hf 9 f9 c9 e9 rfl
    rw [y9] at g9
    obtain ⟨budget, rfl, _⟩ := int_field Tryz.underlying3 g9
    exact ⟨⟨l1, l2, outside, pub, lo, hi, l3, tcp, other, budget⟩, ⟨A1, k1, A2, k2, A3, k3⟩, rfl, r1, r2, r3, ⟨(bounds_u32 w3).1, (bounds_u32 w3).2⟩, htb⟩
end Go.Proofs.YtoghcefamoefpaaGreatDoor

/- Configurations: Short; the fixed answer, from the contracts. -/
namespace Go.Proofs.YtoghcefamoefpaaGreatDoor
open Go.ChangeShapes Go.WideShapes Go.ChangeAt Go.RowKit
set_option linter.unusedVariables false
set_option linter.unusedSimpArgs false

set_option maxRecDepth 100000 in
set_option maxHeartbeats 4000000 in
theorem rshort15 (c : Cf) (p : Cfm) (w : World) (q : Bool) (hq : shortC c = q) :
    Calls Tryz.prog 6 #[cfV c p] w fun e w' => e = .returned (.bool q) ∧ Below w.heap.size w w' := by
  have y0 : Below w.heap.size w (w.alloc (oCf c p)) := (Below.refl _ _).alloc (Nat.le_refl _) _
  have hb := Bxo.made w 27 (cfL c p)
  go_enter Tryz.func6, Tryz.ntmps6
  go_upto_region 1 with fail
  generalize w.alloc (oCf c p) = W at *
  obtain ⟨n1, e1⟩ : ∃ n, c.routes.length = n := ⟨_, rfl⟩
  obtain ⟨n2, e2⟩ : ∃ n, c.rules.length = n := ⟨_, rfl⟩
  obtain ⟨n3, e3⟩ : ∃ n, c.fwds.length = n := ⟨_, rfl⟩
  have HQ : Hid ((decide (n1 ≤ 80) && (decide (n2 ≤ 80) && decide (n3 ≤ 50))) = q) := Go.Lib.hid (by rw [← hq, ← e1, ← e2, ← e3]; rfl)
  have c0 := hb.cell 0 rfl
  have c1 := hb.cell 1 rfl
  have c6 := hb.cell 6 rfl
  rw [e1] at c0
  rw [e2] at c1
  rw [e3] at c6
  clear hb e1 e2 e3 hq
  by_cases a1 : n1 ≤ 80
  · have t1 : (n1 : Int) ≤ 80 := by omega
    by_cases a2 : n2 ≤ 80
    · have t2 : (n2 : Int) ≤ 80 := by omega
      by_cases a3 : n3 ≤ 50
      · have t3 : (n3 : Int) ≤ 50 := by omega
        have HR : Hid (q = true) := Go.Lib.hid (by rw [← HQ.out, decide_eq_true a1, decide_eq_true a2, decide_eq_true a3]; rfl)
        go_wp2_with fail
        go_ret
        exact ⟨by rw [HR.out]; rfl, y0⟩
      · have t3 : ¬ (n3 : Int) ≤ 50 := by omega
        have HR : Hid (q = false) := Go.Lib.hid (by rw [← HQ.out, decide_eq_false a3, Bool.and_false, Bool.and_false])
        go_wp2_with fail
        go_ret
        exact ⟨by rw [HR.out]; rfl, y0⟩
    · have t2 : ¬ (n2 : Int) ≤ 80 := by omega
      have HR : Hid (q = false) := Go.Lib.hid (by rw [← HQ.out, decide_eq_false a2, Bool.false_and, Bool.and_false])
      go_wp2_with fail
      go_ret
      exact ⟨by rw [HR.out]; rfl, y0⟩
  · have t1 : ¬ (n1 : Int) ≤ 80 := by omega
    have HR : Hid (q = false) := Go.Lib.hid (by rw [← HQ.out, decide_eq_false a1, Bool.false_and])
    go_wp2_with fail
    go_ret
    exact ⟨by rw [HR.out]; rfl, y0⟩
/-! the fixed answer. -/
abbrev litT : ByteArray := { data := ([114, 111, 117, 116, 101, 32, 49, 48, 46, 48, 46, 48, 46, 48, 47, 56, 32, 49, 32, 49, 53, 48, 48, 10, 102, 111, 114, 119, 97, 114, 100, 32, 54, 32, 56, 48, 32, 49, 48, 46, 48, 46, 48, 46, 53, 32, 56, 48, 56, 48, 32, 112, 114, 111, 120, 121, 10, 108, 105, 102, 101, 32, 55, 32, 56] : List UInt8).toArray }
abbrev litC : Cf := ⟨[⟨167772160, 8, 1, 1500⟩], [], 0, 0, 1024, 65535, [⟨6, 80, 167772165, 8080, true⟩], 7, 8, 10⟩
set_option maxRecDepth 100000 in
theorem lit_parse : parseP (txB litT) = (litC, 0, 0) := by rfl
theorem lit_right : rightCf litC = true := by rfl
theorem lit_len : 80 < (showP litC).length := by
  have h := fun n => List.length_pos_iff.2 (num_ne n)
  have h1 := h (167772160 / 16777216)
  have h2 := h (167772160 / 65536 % 256)
  have h3 := h (167772160 / 256 % 256)
  have h4 := h (167772160 % 256)
  have h5 := h 8
  have h6 := h 1
  have h7 := h 1500
  have g1 := h (0 / 16777216)
  have g2 := h (0 / 65536 % 256)
  have g3 := h (0 / 256 % 256)
  have g4 := h (0 % 256)
  have g5 := h 0
  have g6 := h 1024
  have g7 := h 65535
  have i1 := h (167772165 / 16777216)
  have i2 := h (167772165 / 65536 % 256)
  have i3 := h (167772165 / 256 % 256)
  have i4 := h (167772165 % 256)
  have i5 := h 6
  have i6 := h 80
  have i7 := h 8080
  have j1 := h 7
  have j2 := h 10
  simp only [showP, linesT, showLines, routeT, ruleT, outsideT, publicT, forwardT, lifeT, budgetT, netT, addrT, List.map_cons, List.map_nil, List.nil_append, List.cons_append, List.flatMap_cons, List.flatMap_nil, List.length_append, List.length_cons, List.length_nil, if_true]
  omega
set_option maxRecDepth 100000 in
set_option maxHeartbeats 4000000 in
theorem cawake15 (kP : ParseC15) (kS : ShowC15) : AwakeC15 := by
  intro w ht
  have KP := Go.Lib.hid kP
  have HT := Go.Lib.hid ht
  clear ht
  have KS := Go.Lib.hid kS
  clear kP kS
  go_enter Tryz.func5, Tryz.ntmps5
  go_upto_region 2 with (go_at_call 8; refine (KP.out _ (by decide) _ lit_parse w HT.out).mono ?_; rintro e w1 hpo; obtain ⟨⟨p, rfl, hc1, hfrp⟩, y1⟩ := hpo; dsimp only)
  have y2 := below_alloc y1 y1.size (oCf litC p)
  have hb := Bxo.made w1 27 (cfL litC p)
  have hc2 := hc1.at ((Below.refl _ _).alloc (Nat.le_refl _) (oCf litC p))
  obtain ⟨ad, e3, hfc⟩ := hc2.fwds.cell (i := 0) (by decide)
  have HF := Go.Lib.hid hfc
  have HC2 := Go.Lib.hid hc2
  have HE3 := Go.Lib.hid e3
  clear hc1 hc2 hfc e3
  generalize w1.alloc (oCf litC p) = w2 at *
  generalize w1.heap.size = g at *
  have HB := Go.Lib.hid (show Bxo w2 g 27 (cfL litC p) from hb)
  clear hb
  go_upto_region 3 with (first
    | (refine wpList_load_box rfl 27 _ rfl g rfl (cfL litC p) _ HB.out Tryz.underlying27 rfl info_cf ?_)
    | (go_at_call 7; refine (KS.out litC p rfl w2 HC2.out).mono ?_; rintro e w3 hso; obtain ⟨⟨s, n, rfl, hs, _⟩, y3⟩ := hso; obtain ⟨hs1, rfl⟩ := hs lit_right; dsimp only))
  have hb3 := HB.out.keep y3 HB.out.lt
  have c0 : w3.cell? ⟨g, 0, none⟩ = some (.slice p.A1 1 p.c1) := hb3.cell 0 rfl
  have c6 : w3.cell? ⟨g, 6, none⟩ = some (.slice (some ad) 1 p.c3) := by
    have := hb3.cell 6 rfl
    rw [HE3.out] at this
    exact this
  have c7 : w3.cell? ⟨g, 7, none⟩ = some (.int .i64 7) := hb3.cell 7 rfl
  have f4 : w3.cell? { block := ad.block, off := ad.off + 4 } = some (.bool true) := by
    have := HF.out w3 y3 4 _ rfl
    rw [add_add] at this
    rw [← add_pos ad 4 (by omega)]
    exact this
  have hlen : 80 < s.size := by
    rw [← txB_len, hs1]
    exact lit_len
  have t80 : (80 : Int) < (s.size : Int) := by omega
  have x3 := y2.trans (y3.mono y2.size)
  clear hb3 hs1 hs hlen
  go_wp2_with fail
  go_ret
  exact ⟨rfl, x3⟩
end Go.Proofs.YtoghcefamoefpaaGreatDoor
