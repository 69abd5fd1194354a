/- A tuple among a law's arguments, opened. No condition. -/
import Derived.Test.YtacohanlpgkdeaaRows
import Derived.Test.YtacohanlpgkdeaaOpen
import Derived.Test.YtacohanlpgkdeaaTpV
import Derived.Deep.Slices
namespace Go.Proofs.Ytacohanlpgkdeaa
open Go.ChangeShapes Go.WideShapes Go.ChangeAt Go.RowKit
set_option linter.unusedVariables false

theorem tp_fields : ∃ fs : Array Field, Try.prog.underlying 27 = some (.struct fs) ∧ Go.Deep.oneCellFields Try.prog fs = true ∧ Try.prog.cellsOf 27 = fs.size ∧ fs.size = 5 ∧
    (fs[0]?.map (·.type)) = some 3 ∧ (fs[1]?.map (·.type)) = some 23 ∧ (fs[2]?.map (·.type)) = some 3 ∧ (fs[3]?.map (·.type)) = some 23 ∧ (fs[4]?.map (·.type)) = some 3 :=
  ⟨_, Try.underlying27, by kernel_rfl, by kernel_rfl, rfl, rfl, rfl, rfl, rfl, rfl⟩
theorem tp_field_at {fs : Array Field} {j : Nat} {t : TypeId} (h : (fs[j]?.map (·.type)) = some t) : ∃ f, fs[j]? = some f ∧ f.type = t := by
  rw [Option.map_eq_some_iff] at h
  exact h
set_option maxRecDepth 100000 in
/-- a tuple that came in. -/
theorem open_tp {H : Type} {enc : TypeId × Value → H} {w : World} {base : Nat} {spare : Nat → Bool} {held : Bool} {r : Reach} {b0 : Nat} {v : Value} {d : DataW H} {ps : List MemPlace}
    (hv : Value.okWide Try.prog w r b0 27 v) (h : DataW.Trod enc Try.prog w base spare held 27 v d ps) :
    ∃ t : Tp, v = tpV t ∧ RngTp t := by
  obtain ⟨fs, hs, hone, hC, h5, t0, t1, t2, t3, t4⟩ := tp_fields
  obtain ⟨cs, rfl, hl, hf⟩ := open_struct hs hone hC hv h
  rw [h5] at hl
  match cs, hl with
  | [c0, c1, c2, c3, c4], _ =>
    obtain ⟨f0, e0, y0⟩ := tp_field_at t0
    obtain ⟨f1, e1, y1⟩ := tp_field_at t1
    obtain ⟨f2, e2, y2⟩ := tp_field_at t2
    obtain ⟨f3, e3, y3⟩ := tp_field_at t3
    obtain ⟨f4, e4, y4⟩ := tp_field_at t4
    obtain ⟨_, _, g0⟩ := hf 0 f0 c0 e0 rfl
    obtain ⟨_, _, g1⟩ := hf 1 f1 c1 e1 rfl
    obtain ⟨_, _, g2⟩ := hf 2 f2 c2 e2 rfl
    obtain ⟨_, _, g3⟩ := hf 3 f3 c3 e3 rfl
    obtain ⟨_, _, g4⟩ := hf 4 f4 c4 e4 rfl
    rw [y0] at g0
    rw [y1] at g1
    rw [y2] at g2
    rw [y3] at g3
    rw [y4] at g4
    obtain ⟨proto, rfl, _⟩ := int_field Try.underlying3 g0
    obtain ⟨src, rfl, w1⟩ := int_field Try.underlying23 g1
    obtain ⟨sport, rfl, _⟩ := int_field Try.underlying3 g2
    obtain ⟨dst, rfl, w3⟩ := int_field Try.underlying23 g3
    obtain ⟨dport, rfl, _⟩ := int_field Try.underlying3 g4
    exact ⟨⟨proto, src, sport, dst, dport⟩, rfl, (bounds_u32 w1).1, (bounds_u32 w1).2, (bounds_u32 w3).1, (bounds_u32 w3).2⟩
end Go.Proofs.Ytacohanlpgkdeaa
