/- Rules as values, and in rows. -/
import Derived.Test.YtacohanlpgkdeaaRulesPlain
import Derived.Test.YtacohanlpgkdeaaTpV
import Derived.Test.YtacohanlpgkdeaaFlat
namespace Go.Proofs.Ytacohanlpgkdeaa
open Go.ChangeShapes Go.WideShapes Go.ChangeAt Go.RowKit
set_option linter.unusedVariables false
set_option linter.unusedSimpArgs false

def Ru.L (r : Ru) : List Value := [.int .i64 r.fr, .int .i64 r.to, .int .i64 r.proto, .int .u32 r.src, .int .u32 r.dst, .int .i64 r.sbits, .int .i64 r.dbits, .int .i64 r.lo, .int .i64 r.hi, .int .i64 r.act]
abbrev ruL (r : Ru) : List Value := [.int .i64 r.fr, .int .i64 r.to, .int .i64 r.proto, .int .u32 r.src, .int .u32 r.dst, .int .i64 r.sbits, .int .i64 r.dbits, .int .i64 r.lo, .int .i64 r.hi, .int .i64 r.act]
abbrev ruV (r : Ru) : Value := .agg #[.int .i64 r.fr, .int .i64 r.to, .int .i64 r.proto, .int .u32 r.src, .int .u32 r.dst, .int .i64 r.sbits, .int .i64 r.dbits, .int .i64 r.lo, .int .i64 r.hi, .int .i64 r.act]
abbrev oRu (r : Ru) : Obj := .cells #[.int .i64 r.fr, .int .i64 r.to, .int .i64 r.proto, .int .u32 r.src, .int .u32 r.dst, .int .i64 r.sbits, .int .i64 r.dbits, .int .i64 r.lo, .int .i64 r.hi, .int .i64 r.act] 25
theorem Ru.len (r : Ru) : r.L.length = 10 := rfl
theorem info_ru : (Try.prog.info? 25).map (·.size) = some 10 := by kernel_rfl
theorem info_ruz : (Try.prog.info? 25).map (fun i => (i.zero, i.size, i.bytes)) = some (some (.agg #[.int .i64 0, .int .i64 0, .int .i64 0, .int .u32 0, .int .u32 0, .int .i64 0, .int .i64 0, .int .i64 0, .int .i64 0, .int .i64 0]), 10, 72) := by kernel_rfl
theorem ru_one (l : List Ru) : ∀ u ∈ l.flatMap Ru.L, u.oneCell' = true := fun u hu => by
  obtain ⟨e, _, he⟩ := List.mem_flatMap.1 hu
  simp only [Ru.L, List.mem_cons, List.not_mem_nil, or_false] at he
  rcases he with rfl | rfl | rfl | rfl | rfl | rfl | rfl | rfl | rfl | rfl <;> rfl
/-- rules in a row. -/
structure RusAt (w : World) (l : List Ru) (A : Option Addr) (c : Nat) : Prop where
  len : l.length ≤ c
  cap : c ≤ 9223372036854775807
  nil : A = none → c = 0
  rd : RdC w A (l.flatMap Ru.L)
  rng : ∀ r ∈ l, RngRu r
section
variable {w w' : World} {l : List Ru} {A : Option Addr} {c : Nat}
theorem RusAt.at (h : RusAt w l A c) (y : Below w.heap.size w w') : RusAt w' l A c := ⟨h.len, h.cap, h.nil, h.rd.keep y, h.rng⟩
theorem RusAt.cell (h : RusAt w l A c) {i : Nat} (hi : i < l.length) : ∃ ad, A = some ad ∧ ∀ Y, Below w.heap.size w Y → ∀ j v, (ruL l[i])[j]? = some v → Y.cell? ((ad.add (i * 10)).add j) = some v := by
  rcases h.rd with h0 | ⟨ad, e, hc⟩
  · have := flat_len Ru.L 10 Ru.len l
    rw [h0] at this
    simp at this
    omega
  · refine ⟨ad, e, fun Y y j v hv => ?_⟩
    have hj : j < 10 := by have := (List.getElem?_eq_some_iff.1 hv).1; simpa using this
    have h1 : (l.flatMap Ru.L)[i * 10 + j]? = some v := by
      rw [flat_get Ru.L 10 Ru.len l i j hi hj]; exact hv
    have h2 := hc _ _ h1
    rw [add_add]
    exact (y.cell (World.block_lt_of_cell? w _ h2)).trans h2
/-- the cells of one, as a walk names them. -/
theorem RusAt.cells (h : RusAt w l A c) {i : Nat} (hi : i < l.length) : ∃ ad, A = some ad ∧ ∀ Y, Below w.heap.size w Y → Y.cell? (ad.add (i * 10)) = some (.int .i64 l[i].fr) ∧ Y.cell? { block := (ad.add (i * 10)).block, off := (ad.add (i * 10)).off + 1 } = some (.int .i64 l[i].to) ∧ Y.cell? { block := (ad.add (i * 10)).block, off := (ad.add (i * 10)).off + 2 } = some (.int .i64 l[i].proto) ∧ Y.cell? { block := (ad.add (i * 10)).block, off := (ad.add (i * 10)).off + 3 } = some (.int .u32 l[i].src) ∧ Y.cell? { block := (ad.add (i * 10)).block, off := (ad.add (i * 10)).off + 4 } = some (.int .u32 l[i].dst) ∧ Y.cell? { block := (ad.add (i * 10)).block, off := (ad.add (i * 10)).off + 5 } = some (.int .i64 l[i].sbits) ∧ Y.cell? { block := (ad.add (i * 10)).block, off := (ad.add (i * 10)).off + 6 } = some (.int .i64 l[i].dbits) ∧ Y.cell? { block := (ad.add (i * 10)).block, off := (ad.add (i * 10)).off + 7 } = some (.int .i64 l[i].lo) ∧ Y.cell? { block := (ad.add (i * 10)).block, off := (ad.add (i * 10)).off + 8 } = some (.int .i64 l[i].hi) ∧ Y.cell? { block := (ad.add (i * 10)).block, off := (ad.add (i * 10)).off + 9 } = some (.int .i64 l[i].act) := by
  obtain ⟨ad, e, hc⟩ := h.cell hi
  refine ⟨ad, e, fun Y y => ⟨?_, ?_, ?_, ?_, ?_, ?_, ?_, ?_, ?_, ?_⟩⟩
  · have := hc Y y 0 _ rfl
    rwa [add_add, Nat.add_zero] at this
  · exact at_off 1 (by have := hc Y y 1 _ rfl; rwa [add_add] at this) (by omega)
  · exact at_off 2 (by have := hc Y y 2 _ rfl; rwa [add_add] at this) (by omega)
  · exact at_off 3 (by have := hc Y y 3 _ rfl; rwa [add_add] at this) (by omega)
  · exact at_off 4 (by have := hc Y y 4 _ rfl; rwa [add_add] at this) (by omega)
  · exact at_off 5 (by have := hc Y y 5 _ rfl; rwa [add_add] at this) (by omega)
  · exact at_off 6 (by have := hc Y y 6 _ rfl; rwa [add_add] at this) (by omega)
  · exact at_off 7 (by have := hc Y y 7 _ rfl; rwa [add_add] at this) (by omega)
  · exact at_off 8 (by have := hc Y y 8 _ rfl; rwa [add_add] at this) (by omega)
  · exact at_off 9 (by have := hc Y y 9 _ rfl; rwa [add_add] at this) (by omega)
/-- its first ones. -/
theorem RusAt.take (h : RusAt w l A c) (n : Nat) : RusAt w (l.take n) A c := by
  refine ⟨by rw [List.length_take]; have := h.len; omega, h.cap, h.nil, ?_, fun r hr => h.rng r (List.mem_of_mem_take hr)⟩
  rcases h.rd with h0 | ⟨ad, e, hc⟩
  · left
    have := flat_len Ru.L 10 Ru.len l
    rw [h0] at this
    simp at this
    have hl : l = [] := List.eq_nil_of_length_eq_zero (by omega)
    subst hl
    simp
  · refine .inr ⟨ad, e, fun j u hj => hc j u ?_⟩
    rw [← flat_take Ru.L 10 Ru.len, List.getElem?_take] at hj
    split at hj
    · exact hj
    · cases hj
theorem RusAt.ofOwn {n base : Nat} {e : TypeId} (hn : l.length = n) (ho : w.ownsRow base e 10 (.slice A n c) n (l.flatMap Ru.L)) (hr : ∀ r ∈ l, RngRu r) : RusAt w l A c := by
  have hcc := own_cap ho
  unfold maxLen at hcc
  refine ⟨by omega, hcc.2, fun e => ?_, own_rd ho, hr⟩
  rcases own_addr ho with ⟨_, _, hc⟩ | ⟨g, e', _⟩
  · exact hc
  · rw [e'] at e; cases e
end
end Go.Proofs.Ytacohanlpgkdeaa
