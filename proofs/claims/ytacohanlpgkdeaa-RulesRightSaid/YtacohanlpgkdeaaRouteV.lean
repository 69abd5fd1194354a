/- Routes as values, and in rows. -/
import Derived.Test.YtacohanlpgkdeaaRoutePlain
import Derived.Test.YtacohanlpgkdeaaFlat
namespace Go.Proofs.Ytacohanlpgkdeaa
open Go.ChangeShapes Go.WideShapes Go.ChangeAt Go.RowKit
set_option linter.unusedVariables false
set_option linter.unusedSimpArgs false

def Rt.L (r : Rt) : List Value := [.int .u32 r.net, .int .i64 r.bits, .int .i64 r.zone, .int .i64 r.mtu]
abbrev rtL (r : Rt) : List Value := [.int .u32 r.net, .int .i64 r.bits, .int .i64 r.zone, .int .i64 r.mtu]
abbrev rtV (r : Rt) : Value := .agg #[.int .u32 r.net, .int .i64 r.bits, .int .i64 r.zone, .int .i64 r.mtu]
theorem Rt.len (r : Rt) : r.L.length = 4 := rfl
theorem rt_one (l : List Rt) : ∀ u ∈ l.flatMap Rt.L, u.oneCell' = true := fun u hu => by
  obtain ⟨e, _, he⟩ := List.mem_flatMap.1 hu
  simp only [Rt.L, List.mem_cons, List.not_mem_nil, or_false] at he
  rcases he with rfl | rfl | rfl | rfl <;> rfl
def sameRt (a b : Rt) : Bool := a.net == b.net && (a.bits == b.bits && (a.zone == b.zone && a.mtu == b.mtu))
theorem sameRt_iff (a b : Rt) : sameRt a b = true ↔ a = b := by
  obtain ⟨a1, a2, a3, a4⟩ := a
  obtain ⟨b1, b2, b3, b4⟩ := b
  unfold sameRt
  simp
/-- routes in a row. -/
structure RtsAt (w : World) (l : List Rt) (A : Option Addr) (c : Nat) : Prop where
  len : l.length ≤ c
  cap : c ≤ 9223372036854775807
  nil : A = none → c = 0
  rd : RdC w A (l.flatMap Rt.L)
  rng : ∀ r ∈ l, RngRt r
section
variable {w w' : World} {l : List Rt} {A : Option Addr} {c : Nat}
theorem RtsAt.at (h : RtsAt w l A c) (y : Below w.heap.size w w') : RtsAt w' l A c := ⟨h.len, h.cap, h.nil, h.rd.keep y, h.rng⟩
theorem RtsAt.cell (h : RtsAt w l A c) {i : Nat} (hi : i < l.length) : ∃ ad, A = some ad ∧ ∀ Y, Below w.heap.size w Y → ∀ j v, (rtL l[i])[j]? = some v → Y.cell? ((ad.add (i * 4)).add j) = some v := by
  rcases h.rd with h0 | ⟨ad, e, hc⟩
  · have := flat_len Rt.L 4 Rt.len l
    rw [h0] at this
    simp at this
    omega
  · refine ⟨ad, e, fun Y y j v hv => ?_⟩
    have hj : j < 4 := by have := (List.getElem?_eq_some_iff.1 hv).1; simpa using this
    have h1 : (l.flatMap Rt.L)[i * 4 + j]? = some v := by
      rw [flat_get Rt.L 4 Rt.len l i j hi hj]; exact hv
    have h2 := hc _ _ h1
    rw [add_add]
    exact (y.cell (World.block_lt_of_cell? w _ h2)).trans h2
/-- the cells of one, as a walk names them. -/
theorem RtsAt.cells (h : RtsAt w l A c) {i : Nat} (hi : i < l.length) : ∃ ad, A = some ad ∧ ∀ Y, Below w.heap.size w Y → Y.cell? (ad.add (i * 4)) = some (.int .u32 l[i].net) ∧ Y.cell? { block := (ad.add (i * 4)).block, off := (ad.add (i * 4)).off + 1 } = some (.int .i64 l[i].bits) := by
  obtain ⟨ad, e, hc⟩ := h.cell hi
  refine ⟨ad, e, fun Y y => ⟨?_, ?_⟩⟩
  · have := hc Y y 0 _ rfl
    rwa [add_add, Nat.add_zero] at this
  · exact at_off 1 (by have := hc Y y 1 _ rfl; rwa [add_add] at this) (by omega)
/-- its first ones. -/
theorem RtsAt.take (h : RtsAt w l A c) (n : Nat) : RtsAt w (l.take n) A c := by
  refine ⟨by rw [List.length_take]; have := h.len; omega, h.cap, h.nil, ?_, fun r hr => h.rng r (List.mem_of_mem_take hr)⟩
  rcases h.rd with h0 | ⟨ad, e, hc⟩
  · left
    have := flat_len Rt.L 4 Rt.len l
    rw [h0] at this
    simp at this
    have hl : l = [] := List.eq_nil_of_length_eq_zero (by omega)
    subst hl
    simp
  · refine .inr ⟨ad, e, fun j u hj => hc j u ?_⟩
    rw [← flat_take Rt.L 4 Rt.len, List.getElem?_take] at hj
    split at hj
    · exact hj
    · cases hj
theorem RtsAt.ofOwn {n base : Nat} {e : TypeId} (hn : l.length = n) (ho : w.ownsRow base e 4 (.slice A n c) n (l.flatMap Rt.L)) (hr : ∀ r ∈ l, RngRt r) : RtsAt w l A c := by
  have hcc := own_cap ho
  unfold maxLen at hcc
  refine ⟨by omega, hcc.2, fun e => ?_, own_rd ho, hr⟩
  rcases own_addr ho with ⟨_, _, hc⟩ | ⟨g, e', _⟩
  · exact hc
  · rw [e'] at e; cases e
end
end Go.Proofs.Ytacohanlpgkdeaa
