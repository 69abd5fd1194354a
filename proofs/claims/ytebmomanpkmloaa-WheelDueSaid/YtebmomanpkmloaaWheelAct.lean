/- Acts of a wheel in memory; a wheel beside the document's own. -/
import Derived.Test.YtebmomanpkmloaaWheelR5
import Derived.Test.YtebmomanpkmloaaWheelL0
namespace Go.Proofs.Ytebmomanpkmloaa
open Go.ChangeShapes Go.WideShapes Go.ChangeAt Go.RowKit
set_option linter.unusedVariables false
set_option linter.unusedSimpArgs false

structure Ac where
  kind : Int
  num : Int
  at_ : Int
def Ac.L (a : Ac) : List Value := [.int .i64 a.kind, .int .i64 a.num, .int .i64 a.at_]
abbrev acL (a : Ac) : List Value := [.int .i64 a.kind, .int .i64 a.num, .int .i64 a.at_]
abbrev oAc (a : Ac) : Obj := .cells #[.int .i64 a.kind, .int .i64 a.num, .int .i64 a.at_] 30
theorem Ac.len (a : Ac) : a.L.length = 3 := rfl
theorem info_ac : (Try.prog.info? 30).map (·.size) = some 3 := by kernel_rfl
/-- acts in a row. -/
structure AcsAt (w : World) (l : List Ac) (A : Option Addr) (c : Nat) : Prop where
  len : l.length ≤ c
  cap : c ≤ 9223372036854775807
  nil : A = none → c = 0
  rd : RdC w A (l.flatMap Ac.L)
  rng : ∀ a ∈ l, I64 a.num
theorem AcsAt.cell {w : World} {l : List Ac} {A : Option Addr} {c : Nat} (h : AcsAt w l A c) {i : Nat} (hi : i < l.length) : ∃ ad, A = some ad ∧ ∀ Y, Below w.heap.size w Y → ∀ j v, (acL l[i])[j]? = some v → Y.cell? ((ad.add (i * 3)).add j) = some v := by
  rcases h.rd with h0 | ⟨ad, e, hc⟩
  · have := flat_len Ac.L 3 Ac.len l
    rw [h0] at this
    simp at this
    omega
  · refine ⟨ad, e, fun Y y j v hv => ?_⟩
    have hj : j < 3 := by have := (List.getElem?_eq_some_iff.1 hv).1; simpa using this
    have h1 : (l.flatMap Ac.L)[i * 3 + j]? = some v := by
      rw [flat_get Ac.L 3 Ac.len l i j hi hj]; exact hv
    have h2 := hc _ _ h1
    rw [add_add]
    exact (y.cell (World.block_lt_of_cell? w _ h2)).trans h2
/-- what a nil wheel is answered. -/
structure WheelN : Prop where
  set : ∀ (n t : Int) (w : World), Calls Try.prog 10 #[.pointer none, .int .i64 n, .int .i64 t] w fun e w' => e = .returned (.int .i64 1) ∧ Below w.heap.size w w'
  drop : ∀ (n : Int) (w : World), Calls Try.prog 12 #[.pointer none, .int .i64 n] w fun e w' => e = .returned (.int .i64 1) ∧ Below w.heap.size w w'
  tick : ∀ (now : Int) (w : World), Calls Try.prog 14 #[.pointer none, .int .i64 now] w fun e w' => ∃ A c, e = .returned (.tuple #[.slice A 0 c, .int .i64 1]) ∧ Below w.heap.size w w'
  when_ : ∀ (n : Int) (w : World), Calls Try.prog 16 #[.pointer none, .int .i64 n] w fun e w' => e = .returned (.tuple #[.int .i64 0, .bool false]) ∧ Below w.heap.size w w'
  waits : ∀ (w : World), Calls Try.prog 18 #[.pointer none] w fun e w' => e = .returned (.int .i64 0) ∧ Below w.heap.size w w'
  now_ : ∀ (w : World), Calls Try.prog 19 #[.pointer none] w fun e w' => e = .returned (.int .i64 0) ∧ Below w.heap.size w w'
/-- a wheel, and the document's own beside it in a box. -/
structure RtI (K : WheelC) (w0 : World) (g : Nat) (ad : Addr) (xp xd : Wh) (F : Nat → Prop) (A : Option Addr) (c : Nat) (wr : World) : Prop where
  wh : WhI K w0 ad xp F wr
  box : Bxo wr g 28 (whL xd A c)
  al : AlAt wr xd.list A c
  ge : w0.heap.size ≤ g
  gF : ¬ F g
  apart : ∀ b, A = some b → b.block ≠ g ∧ ¬ F b.block ∧ b.block < wr.heap.size
section
variable {K : WheelC} {w0 wr wx : World} {g : Nat} {ad : Addr} {xp xd xp' xd' : Wh} {F F' : Nat → Prop} {A A' : Option Addr} {c c' : Nat}
theorem RtI.call (h : RtI K w0 g ad xp xd F A c wr) (y : Below wr.heap.size wr wx) : RtI K w0 g ad xp xd F A c wx :=
  ⟨h.wh.call y, h.box.keep y h.box.lt, h.al.at y, h.ge, h.gF, fun b e => ⟨(h.apart b e).1, (h.apart b e).2.1, Nat.lt_of_lt_of_le (h.apart b e).2.2 y.size⟩⟩
/-- the program's wheel has turned. -/
theorem RtI.turn (h : RtI K w0 g ad xp xd F A c wr) (r : K.Rep wx ad xp' F') (n : Newer wr F F') (m : Moves wr wx F) : RtI K w0 g ad xp' xd F' A c wx :=
  ⟨h.wh.turn r n m, (m.block g h.box.lt h.gF).trans h.box, h.al.keepR fun b e => m.block _ (h.apart b e).2.2 (h.apart b e).2.1, h.ge, fun f => (n g f).elim h.gF (fun q => by have := h.box.lt; omega),
    fun b e => ⟨(h.apart b e).1, fun f => (n _ f).elim (h.apart b e).2.1 (fun q => by have := (h.apart b e).2.2; omega), Nat.lt_of_lt_of_le (h.apart b e).2.2 m.size⟩⟩
/-- the document's own has answered anew, in wm; then its box is written, in wx. -/
theorem RtI.doc {wm : World} (h : RtI K w0 g ad xp xd F A c wr) (y : Below wr.heap.size wr wm) (ha : AlAt wm xd'.list A' c') (hf : A' = A ∨ ∀ b, A' = some b → wr.heap.size ≤ b.block ∧ b.block < wm.heap.size) (ho : Only g wm wx) (hb : Bxo wx g 28 (whL xd' A' c')) : RtI K w0 g ad xp xd' F A' c' wx := by
  have h1 := h.call y
  have hap : ∀ b, A' = some b → b.block ≠ g ∧ ¬ F b.block ∧ b.block < wm.heap.size := fun b e => by
    rcases hf with rfl | hf
    · exact h1.apart b e
    · have h2 := hf b e
      refine ⟨by have := h.box.lt; omega, fun f => ?_, h2.2⟩
      have := K.lt h.wh.rep _ f
      omega
  exact ⟨⟨K.keep h1.wh.rep (fun b hb => ho.block b (fun e => h.gF (e ▸ hb))) (Nat.le_of_eq ho.size.symm), h1.wh.ge, h1.wh.below.trans (ho.below h.ge)⟩, hb, ha.keepR fun b e => ho.block _ (hap b e).1, h.ge, h.gF, fun b e => ⟨(hap b e).1, (hap b e).2.1, by rw [ho.size]; exact (hap b e).2.2⟩⟩
end
/-- an act in a box. -/
structure AcB (F : Nat → Prop) (a : Ac) (ga : Nat) (wr : World) : Prop where
  box : Bxo wr ga 30 (acL a)
  nF : ¬ F ga
section
variable {F F' : Nat → Prop} {a : Ac} {ga : Nat} {wr wx : World}
theorem AcB.call (h : AcB F a ga wr) (y : Below wr.heap.size wr wx) : AcB F a ga wx := ⟨h.box.keep y h.box.lt, h.nF⟩
theorem AcB.only {g : Nat} (h : AcB F a ga wr) (ho : Only g wr wx) (hne : ga ≠ g) : AcB F a ga wx := ⟨h.box.only ho hne, h.nF⟩
theorem AcB.turn (h : AcB F a ga wr) (n : Newer wr F F') (m : Moves wr wx F) : AcB F' a ga wx :=
  ⟨(m.block ga h.box.lt h.nF).trans h.box, fun f => (n ga f).elim h.nF (fun q => by have := h.box.lt; omega)⟩
end
end Go.Proofs.Ytebmomanpkmloaa
