/- Rows of bytes of a call's own, nil or not: append; a literal. -/
import Derived.Test.YtndhiopfkgdhcaaOwn
namespace Go.Proofs.Ytndhiopfkgdhcaa
open Go.ChangeShapes Go.WideShapes Go.ChangeAt Go.RowKit
set_option linter.unusedVariables false

/-- a row of bytes of the call's own, nil or not. -/
structure Row (w : World) (base : Nat) (v : Value) (l : List UInt8) : Prop where
  is : w.ownsRow base 5 1 v l.length (l.map bv)
section
variable {w w' : World} {base B : Nat} {v : Value} {l r : List UInt8}
theorem Row.nil_ : Row w base (.slice none 0 0) [] := ⟨World.ownsRow_nil _ _ _ _⟩
theorem Own.row {g n c : Nat} (h : Own w base g n c l) : Row w base (.slice (some ⟨g, 0, none⟩) n c) l := by
  have e := h.len
  subst e
  exact ⟨h⟩
theorem Row.own (h : Row w base v l) (hl : 0 < l.length) : ∃ g c, v = .slice (some ⟨g, 0, none⟩) l.length c ∧ Own w base g l.length c l := by
  obtain ⟨g, c, rfl, _, _, _, _⟩ := own_form h.is hl
  exact ⟨g, c, rfl, h.is⟩
theorem Row.form (h : Row w base v l) : ∃ A c, v = .slice A l.length c ∧ l.length ≤ c ∧ c ≤ 9223372036854775807 ∧ (A = none → c = 0) ∧ Bs w w.heap.size A l := by
  obtain ⟨A, c, he, h1, h2, h3, h4⟩ := rd_of_own h.is
  exact ⟨A, c, he, h1, by unfold maxLen at h2; omega, h3, h4.bs⟩
theorem Row.keep (h : Row w base v l) (hb : Below w.heap.size w w') : Row w' base v l := by
  refine ⟨h.is.1, ?_⟩
  rcases h.is.2 with h | ⟨g', cap, cur, hv, hba, hh, hn, hm, hs, ht⟩
  · exact .inl h
  · refine .inr ⟨g', cap, cur, hv, hba, ?_, hn, hm, hs, ht⟩
    rw [hb.block g' (Array.getElem?_eq_some_iff.1 hh).1]; exact hh
/-- what lies below a bound that no change reaches stays. -/
theorem Row.stay (h : Row w base v l) (hb : Below B w w') (hv : ∀ q, v.ownBlock = some q → q < B) : Row w' base v l := by
  refine ⟨h.is.1, ?_⟩
  rcases h.is.2 with h | ⟨g', cap, cur, hv', hba, hh, hn, hm, hs, ht⟩
  · exact .inl h
  · refine .inr ⟨g', cap, cur, hv', hba, ?_, hn, hm, hs, ht⟩
    rw [hb.block g' (hv g' (by rw [hv']; rfl))]; exact hh
theorem Row.lt (h : Row w base v l) : ∀ q, v.ownBlock = some q → base ≤ q ∧ q < w.heap.size := fun q hq => World.ownsRow.lt h.is q hq
end
theorem Row.drew {w : World} {base : Nat} {v : Value} {l : List UInt8} (h : Row w base v l) : Row w.drew base v l := ⟨h.is⟩
theorem Row.mono {w : World} {base base' : Nat} {v : Value} {l : List UInt8} (h : Row w base v l) (hb : base' ≤ base) : Row w base' v l := ⟨World.ownsRow.mono h.is hb⟩
/-- append onto a row of the call's own, in a plain region and in one that draws. -/
theorem ap {w : World} {ops : Array Oper} {rest : List Oper} {o : Oper} {a : Act} {Q : Exit → Act → World → Prop} (hgd : o.guard = none) (s x : Operand)
    (ho : o.op = .call { callee := .builtin .append, args := #[s, x], argTypes := #[23, 23] })
    (base : Nat) (v : Value) (l : List UInt8) (hs : a.eval s = v) (hown : Row w base v l)
    (B : Nat) (A : Option Addr) (m c : Nat) (r : List UInt8) (hx : a.eval x = .slice A m c) (hm : r.length = m) (hc : A = none → c = 0) (hr : Bs w B A r) (hl : l.length ≤ 1073741824) (hrl : m ≤ 1073741824) (hbase : base ≤ w.heap.size)
    (h : ∀ v' w', Row w' base v' (l ++ r) → Below base w w' → wpList Try.prog ops Q rest (a.put o.dst v') w') : wpList Try.prog ops Q (o :: rest) a w := by
  obtain ⟨i0, hi, hz0, hz1, hz2⟩ := info_parts info_byte
  refine wpList_append_rd hgd s x 23 ho base 5 i0 (.int .u8 0) 1 Try.underlying23 hi hz0 hz1 hz2 rfl v l.length (l.map bv) hs hown.is B A m c (r.map bv) hx (by simpa using hm) hc hr.rd (bv_one _) (by unfold maxLen; omega) (by omega) hbase ?_
  intro v' w' h1 hg hat
  subst hm
  refine h v' w' ?_ (Below.grown (Below.refl _ _) hg hbase (fun q hq => (Row.lt hown q hq).1))
  refine ⟨?_⟩
  rw [List.length_append, List.map_append]
  exact h1
theorem apS {w : World} {ops : Array Oper} {o : Oper} {a : Act} {K : Act → World → Prop} {Q : Exit → Act → World → Prop} {E : Prop} (hgd : o.guard = none) (s x : Operand)
    (ho : o.op = .call { callee := .builtin .append, args := #[s, x], argTypes := #[23, 23] })
    (base : Nat) (v : Value) (l : List UInt8) (hs : a.eval s = v) (hown : Row w base v l)
    (B : Nat) (A : Option Addr) (m c : Nat) (r : List UInt8) (hx : a.eval x = .slice A m c) (hm : r.length = m) (hc : A = none → c = 0) (hr : Bs w B A r) (hl : l.length ≤ 1073741824) (hrl : m ≤ 1073741824) (hbase : base ≤ w.heap.size)
    (h : ∀ v' w', Row w' base v' (l ++ r) → Below base w w' → K (a.put o.dst v') w') : if Region.wanted o (yielded ops a.tmps) = true then Oper.wp Try.prog o a w K Q else E := by
  obtain ⟨i0, hi, hz0, hz1, hz2⟩ := info_parts info_byte
  refine step_append_rd hgd s x 23 ho base 5 i0 (.int .u8 0) 1 Try.underlying23 hi hz0 hz1 hz2 rfl v l.length (l.map bv) hs hown.is B A m c (r.map bv) hx (by simpa using hm) hc hr.rd (bv_one _) (by unfold maxLen; omega) (by omega) hbase ?_
  intro v' w' h1 hg hat
  subst hm
  refine h v' w' ?_ (Below.grown (Below.refl _ _) hg hbase (fun q hq => (Row.lt hown q hq).1))
  refine ⟨?_⟩
  rw [List.length_append, List.map_append]
  exact h1
/-- a literal of bytes that was made just now. -/
theorem lit_bs (W : World) (xs : List Int) (h : ∀ x ∈ xs, 0 ≤ x ∧ x ≤ 255) : Bs (W.alloc (.cells (xs.map (Value.int .u8)).toArray 5)) (W.heap.size + 1) (some ⟨W.heap.size, 0, none⟩) (xs.map b8) := by
  refine .inr ⟨_, rfl, by simp, fun j u hj => ?_⟩
  rw [List.getElem?_map, Option.map_eq_some_iff] at hj
  obtain ⟨x, hx, rfl⟩ := hj
  obtain ⟨h0, h1⟩ := h x (List.mem_of_getElem? hx)
  rw [b8_is x h0 h1]
  have hj : j < xs.length := (List.getElem?_eq_some_iff.1 hx).1
  rw [add_own]
  simp [go_sem, hx]
theorem own_lit (W : World) (base : Nat) (xs : List Int) (h : ∀ x ∈ xs, 0 ≤ x ∧ x ≤ 255) (hb : base ≤ W.heap.size) (hl : xs.length ≤ 1073741824) :
    Own (W.alloc (.cells (xs.map (Value.int .u8)).toArray 5)) base W.heap.size xs.length xs.length (xs.map b8) := by
  have e : (xs.map b8).map bv = xs.map (Value.int .u8) := by
    rw [List.map_map]
    apply List.map_congr_left
    intro x hx
    obtain ⟨h0, h1⟩ := h x hx
    simp only [Function.comp, bv]
    rw [b8_is x h0 h1]
  refine Own.of_block (cur := xs.map (Value.int .u8)) hb (heap_alloc_new W _) (by simp) (Nat.le_refl _) (by unfold maxLen; omega) (by simp) ?_
  rw [e, List.take_of_length_le (by simp)]

theorem stepB {W X Y : World} (hx : Below W.heap.size W X) (hc : Below X.heap.size X Y) : Below W.heap.size W Y := hx.trans (hc.mono hx.size)
def lenOf : Value → Nat
  | .slice _ n _ => n
  | _ => 0
/-- what a Put answers. -/
def PutPost (L : List UInt8) (n : Nat) (r : Int) (w : World) (e : Ending) (w' : World) : Prop := ∃ A c, e = .returned (.tuple #[.slice A n c, .int .i64 r]) ∧ Bs w' w'.heap.size A L ∧ Below w.heap.size w w'
theorem PutPost.of {L : List UInt8} {n : Nat} {r : Int} {w : World} {e : Ending} {w' : World} (A : Option Addr) (c : Nat) (he : e = .returned (.tuple #[.slice A n c, .int .i64 r])) (hb : Bs w' w'.heap.size A L) (hw : Below w.heap.size w w') : PutPost L n r w e w' := ⟨A, c, he, hb, hw⟩
theorem pos_cell {w : World} {B : Nat} {A : Option Addr} {l : List UInt8} {ad : Addr} (hA : A = some ad) (h : Bs w B A l) (k : Nat) (hk : k < l.length) (h0 : 0 < k) : w.cell? { block := ad.block, off := ad.off + k } = some (.int .u8 (g8 l k)) := by
  obtain ⟨ad', e, _, hc⟩ := g8_cell h hk
  rw [hA] at e
  cases e
  rwa [add_pos ad k h0] at hc
theorem zero_cell {w : World} {B : Nat} {A : Option Addr} {l : List UInt8} {ad : Addr} (hA : A = some ad) (h : Bs w B A l) (hk : 0 < l.length) : w.cell? ad = some (.int .u8 (g8 l 0)) := by
  obtain ⟨ad', e, _, hc⟩ := g8_cell h hk
  rw [hA] at e
  cases e
  rwa [add_zero] at hc
end Go.Proofs.Ytndhiopfkgdhcaa
