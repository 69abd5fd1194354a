/- A message among a law's arguments, opened. No condition. -/
import Derived.Test.YtndhiopfkgdhcaaRows
import Derived.Deep.Slices
import Derived.Test.YtndhiopfkgdhcaaOpen
import Derived.Test.YtndhiopfkgdhcaaIcmpV
namespace Go.Proofs.Ytndhiopfkgdhcaa
open Go.ChangeShapes Go.WideShapes Go.ChangeAt Go.RowKit
set_option linter.unusedVariables false

theorem Try.cellsU8I : Try.prog.cellsOf 5 = 1 := by kernel_rfl
theorem ic_fields : ∃ fs : Array Field, Try.prog.underlying 25 = some (.struct fs) ∧ Go.Deep.oneCellFields Try.prog fs = true ∧ Try.prog.cellsOf 25 = fs.size ∧ fs.size = 4 ∧
    (fs[0]?.map (·.type)) = some 3 ∧ (fs[1]?.map (·.type)) = some 3 ∧ (fs[2]?.map (·.type)) = some 22 ∧ (fs[3]?.map (·.type)) = some 23 :=
  ⟨_, Try.underlying25, by kernel_rfl, by kernel_rfl, rfl, rfl, rfl, rfl, rfl⟩
theorem ic_field_at {fs : Array Field} {j : Nat} {t : TypeId} (h : (fs[j]?.map (·.type)) = some t) : ∃ f, fs[j]? = some f ∧ f.type = t := by
  rw [Option.map_eq_some_iff] at h
  exact h
/-- a message that came in. -/
theorem open_ic {H : Type} {enc : TypeId × Value → H} {w : World} {base : Nat} {spare : Nat → Bool} {held : Bool} {r : Reach} {b0 : Nat} {v : Value} {d : DataW H} {ps : List MemPlace}
    (hv : Value.okWide Try.prog w r b0 25 v) (h : DataW.Trod enc Try.prog w base spare held 25 v d ps) :
    ∃ (m : Ic) (Ab : Option Addr) (cb : Nat), v = icV m Ab cb ∧ IcIn w w.heap.size m Ab cb := by
  obtain ⟨fs, hs, hone, hC, h4, t0, t1, t2, t3⟩ := ic_fields
  obtain ⟨cs, rfl, hl, hf⟩ := open_struct hs hone hC hv h
  rw [h4] at hl
  match cs, hl with
  | [c0, c1, c2, c3], _ =>
    obtain ⟨f0, e0, y0⟩ := ic_field_at t0
    obtain ⟨f1, e1, y1⟩ := ic_field_at t1
    obtain ⟨f2, e2, y2⟩ := ic_field_at t2
    obtain ⟨f3, e3, y3⟩ := ic_field_at t3
    obtain ⟨_, _, g0⟩ := hf 0 f0 c0 e0 rfl
    obtain ⟨_, _, g1⟩ := hf 1 f1 c1 e1 rfl
    obtain ⟨_, _, g2⟩ := hf 2 f2 c2 e2 rfl
    obtain ⟨_, _, g3⟩ := hf 3 f3 c3 e3 rfl
    rw [y0] at g0
    rw [y1] at g1
    rw [y2] at g2
    rw [y3] at g3
    obtain ⟨type, rfl, _⟩ := int_field Try.underlying3 g0
    obtain ⟨code, rfl, _⟩ := int_field Try.underlying3 g1
    obtain ⟨rest, rfl, w2⟩ := int_field Try.underlying22 g2
    obtain ⟨Ab, body, cb, rfl, b1, b2, b3, b4⟩ := bytes_field Try.underlying23 Try.underlying5 Try.cellsU8I g3
    exact ⟨⟨type, code, rest, body⟩, Ab, cb, rfl, (bounds_u32 w2).1, (bounds_u32 w2).2, b1, b2, b3, b4⟩
end Go.Proofs.Ytndhiopfkgdhcaa
