/- Rows of bytes of a call's own; cells of bytes by their places; an array's element. -/
import Derived.Test.YtacohanlpgkdeaaRows
import Derived.Test.YtacohanlpgkdeaaIpPlain
import Derived.Test.YtacohanlpgkdeaaMem
import Derived.WalkKit
import Derived.ProofKit
import Derived.OpenShut
import Derived.Below
import Derived.Deep.QuietTactic
import Derived.Deep.RegionHeld3
import Derived.BigQuiet
import Derived.OwnWalk
import Derived.Laws.OwnMore
import Derived.Laws.CopyOwn
import Derived.Deep.AppendLies
import Derived.Deep.DeepCutAuto
import Derived.Deep.CutBlock
import Derived.StillTailTactics
import Derived.Deep.Onto
namespace Go.Proofs.Ytacohanlpgkdeaa
open Go.ChangeShapes Go.WideShapes Go.ChangeAt Go.RowKit
set_option linter.unusedVariables false

theorem g8_cell {w : World} {B : Nat} {A : Option Addr} {l : List UInt8} (h : Bs w B A l) {k : Nat} (hk : k < l.length) : ∃ ad, A = some ad ∧ ad.block < B ∧ w.cell? (ad.add k) = some (.int .u8 (g8 l k)) := by
  rw [g8_at l k hk]
  exact h.at_ hk
theorem g8_cells {w : World} {B : Nat} {A : Option Addr} {l : List UInt8} (h : Bs w B A l) (hl : 0 < l.length) : ∃ ad, A = some ad ∧ ad.block < B ∧ ∀ k, k < l.length → w.cell? (ad.add k) = some (.int .u8 (g8 l k)) := by
  rcases h with h | ⟨ad, rfl, hlt, hcell⟩
  · subst h; simp at hl
  · exact ⟨ad, rfl, hlt, fun k hk => by rw [g8_at l k hk]; exact hcell k _ (List.getElem?_eq_getElem hk)⟩

/-- a row of bytes of the call's own. -/
def Own (w : World) (base g n c : Nat) (l : List UInt8) : Prop := w.ownsRow base 5 1 (.slice (some ⟨g, 0, none⟩) n c) n (l.map bv)
theorem Own.len {w : World} {base g n c : Nat} {l : List UInt8} (h : Own w base g n c l) : l.length = n := by have := h.1; simpa using this
theorem Own.lt {w : World} {base g n c : Nat} {l : List UInt8} (h : Own w base g n c l) : base ≤ g ∧ g < w.heap.size := World.ownsRow.lt h g rfl
theorem Own.bs {w : World} {base g n c : Nat} {l : List UInt8} (h : Own w base g n c l) : Bs w w.heap.size (some ⟨g, 0, none⟩) l := (rd_of_own' h).bs
theorem Own.stored {w : World} {base g n c : Nat} {l : List UInt8} (h : Own w base g n c l) (j : Nat) (x : Int) (h0 : 0 ≤ x) (h1 : x ≤ 255) :
    Own (w.setCell ⟨g, j, none⟩ (.int .u8 x)) base g n c (l.set j (b8 x)) ∧ Below base w (w.setCell ⟨g, j, none⟩ (.int .u8 x)) := by
  have e : Value.int .u8 x = bv (b8 x) := by unfold bv; rw [b8_is x h0 h1]
  rw [e]
  have hs := World.ownsRow.stored h j (bv (b8 x))
  refine ⟨?_, (Below.refl _ _).setCell h.lt.1 _⟩
  unfold Own
  rw [List.map_set]
  exact hs.1
theorem Own.cap {w : World} {base g n c : Nat} {l : List UInt8} (h : Own w base g n c l) : n ≤ c ∧ c ≤ maxLen := by
  rcases h.2 with ⟨h, _⟩ | ⟨g', cap, cur, hv, hb, hh, hn, hm, hs, ht⟩
  · cases h
  · injection hv with h1 h2 h3; subst h3; exact ⟨hn, hm⟩
theorem Own.below {w w' : World} {base g n c : Nat} {l : List UInt8} (h : Own w base g n c l) (hb : Below w.heap.size w w') : Own w' base g n c l := by
  refine ⟨h.1, ?_⟩
  rcases h.2 with h | ⟨g', cap, cur, hv, hba, hh, hn, hm, hs, ht⟩
  · exact .inl h
  · refine .inr ⟨g', cap, cur, hv, hba, ?_, hn, hm, hs, ht⟩
    rw [hb.block g' (Array.getElem?_eq_some_iff.1 hh).1]; exact hh
theorem Own.cellAt {w : World} {base g n c : Nat} {l : List UInt8} (h : Own w base g n c l) (j : Nat) (hj : j < n) : w.cell? ⟨g, j, none⟩ = some (.int .u8 (g8 l j)) := by
  have := own_cell h j (by have := h.len; simpa [this] using hj)
  rw [this, g8_at l j (by have := h.len; omega)]; simp [bv]
theorem Own.frozenAt {w : World} {base g n c : Nat} {l : List UInt8} (h : Own w base g n c l) (j : Nat) : w.frozen? ⟨g, j, none⟩ = false := World.ownsRow.frozenAt h j

theorem info_int : (Try.prog.info? 3).map (fun i => (i.zero, i.size, i.bytes)) = some (some (.int .i64 0), 1, 8) := by kernel_rfl
theorem info_byte : (Try.prog.info? 5).map (fun i => (i.zero, i.size, i.bytes)) = some (some (.int .u8 0), 1, 1) := by kernel_rfl

theorem own_made (w : World) (base n c : Nat) (hb : base ≤ w.heap.size) (hnc : n ≤ c) (hm : c ≤ maxLen) : Own (w.alloc (.cells (madeCells #[.int .u8 0] c) 5)) base w.heap.size n c (List.replicate n 0) := by
  refine ⟨by simp, .inr ⟨w.heap.size, c, madeCells #[.int .u8 0] c, rfl, hb, heap_alloc_new w _, hnc, hm, by rw [size_madeCells, Nat.mul_one], ?_⟩⟩
  rw [toList_madeCells_one, Nat.mul_one, List.take_replicate, Nat.min_eq_left hnc, List.map_replicate]
  rfl
/-- what lies in the block of a row, and what a splice into it makes. -/
theorem Own.block {w : World} {base g n c : Nat} {l : List UInt8} (h : Own w base g n c l) : ∃ cur : List Value, w.heap[g]? = some (.cells cur.toArray 5 (0, 0)) ∧ cur.length = c ∧ cur.take n = l.map bv := by
  rcases h.2 with ⟨h, _⟩ | ⟨g', cap, cur, hv, hb, hh, hn, hm, hs, ht⟩
  · cases h
  · injection hv with h1 h2 h3
    subst h3
    injection h1 with h1
    injection h1 with h1
    subst h1
    exact ⟨cur.toList, by simpa using hh, by simpa using hs, by simpa using ht⟩
theorem Own.of_block {w : World} {base g n c : Nat} {l : List UInt8} {cur : List Value} (hb : base ≤ g) (hh : w.heap[g]? = some (.cells cur.toArray 5 (0, 0))) (hc : cur.length = c) (hn : n ≤ c) (hm : c ≤ maxLen) (hl : l.length = n) (ht : cur.take n = l.map bv) : Own w base g n c l :=
  ⟨by simpa using hl, .inr ⟨g, c, cur.toArray, rfl, hb, hh, hn, hm, by simpa using hc, by simpa using ht⟩⟩
theorem take_splice {cur : List Value} {l o : List UInt8} (k : Nat) (ht : cur.take (k + o.length) = l.map bv) (hc : k + o.length ≤ cur.length) : (splice cur k (o.map bv)).take (k + o.length) = (l.take k ++ o).map bv := by
  unfold splice
  have e1 : (cur.take k).length = k := by rw [List.length_take]; omega
  have e2 : (l.take k).map bv = cur.take k := by rw [List.map_take, ← ht, List.take_take, Nat.min_eq_left (by omega)]
  rw [List.map_append, e2, List.take_append, e1, List.take_of_length_le (by omega)]
  congr 1
  rw [show k + o.length - k = (o.map bv).length by simp, List.take_append_of_le_length (Nat.le_refl _), List.take_length]

theorem upx {P : Program} {f : FuncId} {args : Array Value} {w W : World} {B : Nat} {v : Value} (h : Calls P f args w fun e w' => e = .returned v ∧ Below w.heap.size w w') (hb : Below B W w) (hB : B ≤ w.heap.size) :
    Calls P f args w fun e w' => e = .returned v ∧ Below w.heap.size w w' ∧ Below B W w' :=
  h.mono fun _ _ ⟨he, hw⟩ => ⟨he, hw, hb.trans (hw.mono hB)⟩
theorem dn0 (w : World) : ∃ m, w = w.drewN m := ⟨0, rfl⟩
/-- an array of ints by value: its element. -/
theorem run_index_arr (t e : TypeId) (n : Nat) (k : IntKind) (i : TypeInfo) (cs : Array Value) (j : Nat) (v : Value) (h : Try.prog.underlying t = some (.array n e)) (he : Try.prog.underlying e = some (.int k)) (hi : Try.prog.info? e = some i) (hs : Try.prog.cellsOf e = 1) (hj : j < n) (hv : cs[j]? = some v) (w : World) :
    (Instr.index t (.agg cs) (.int .i64 (j : Int))).run Try.prog w = .ok v w := by
  simp [Instr.index, run_underlying h, asIntOf, hj, go_sem, run_sizeOf w hi, hs, part, isAgg, run_underlying he, hv]
theorem four_rd (W : World) (a b c d : Int) (ha : 0 ≤ a ∧ a ≤ 255) (hb : 0 ≤ b ∧ b ≤ 255) (hc : 0 ≤ c ∧ c ≤ 255) (hd : 0 ≤ d ∧ d ≤ 255) :
    Rd (W.alloc (.cells #[.int .u8 a, .int .u8 b, .int .u8 c, .int .u8 d] 5)) (W.heap.size + 1) (some ⟨W.heap.size, 0, none⟩) ([b8 a, b8 b, b8 c, b8 d].map bv) := by
  refine .inr ⟨_, rfl, by simp, fun j u hj => ?_⟩
  match j, hj with
  | 0, hj => simp [bv, b8_is a ha.1 ha.2] at hj; subst hj; simp [Addr.add]
  | 1, hj => simp [bv, b8_is b hb.1 hb.2] at hj; subst hj; simp [Addr.add]
  | 2, hj => simp [bv, b8_is c hc.1 hc.2] at hj; subst hj; simp [Addr.add]
  | 3, hj => simp [bv, b8_is d hd.1 hd.2] at hj; subst hj; simp [Addr.add]

end Go.Proofs.Ytacohanlpgkdeaa
