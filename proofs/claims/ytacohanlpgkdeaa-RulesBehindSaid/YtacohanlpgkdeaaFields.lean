/- A struct's fields among a law's arguments, of one cell or more. No condition. -/
import Derived.Test.YtacohanlpgkdeaaRows
import Derived.Test.YtacohanlpgkdeaaOpen
import Derived.Deep.Slices
namespace Go.Proofs.Ytacohanlpgkdeaa
open Go.ChangeShapes Go.WideShapes Go.ChangeAt Go.RowKit
set_option linter.unusedVariables false

section
variable {H : Type} {enc : TypeId × Value → H} {P : Program} {w : World} {base : Nat} {spare : Nat → Bool} {held : Bool}
/-- a struct's field, of any number of cells. -/
theorem some_field {t ty : TypeId} {fs : Array Field} {n : Nat} {cs : List Value} {x : DataW H × List MemPlace} (hs : P.underlying t = some (.struct fs)) (h : DataW.trod enc P w base spare held n t cs = some x) {j o : Nat}
    (hj : (fs[j]?.map fun f => (f.type, f.offset)) = some (ty, o)) : ∃ (y : DataW H × List MemPlace) (m : Nat), DataW.trod enc P w base spare held m ty ((cs.drop o).take (P.cellsOf ty)) = some y := by
  obtain ⟨xs, m, _, _, _, hlen, hg⟩ := DataW.trod_struct hs h
  rw [Option.map_eq_some_iff] at hj
  obtain ⟨f, hf, he⟩ := hj
  obtain ⟨rfl, rfl⟩ := Prod.mk.inj he
  have hjl : j < fs.size := (Array.getElem?_eq_some_iff.1 hf).1
  exact ⟨xs[j]'(by omega), m, by rw [hg j f hf]; exact List.getElem?_eq_getElem (by omega)⟩
/-- a struct's field of one cell. -/
theorem one_field {t ty : TypeId} {fs : Array Field} {n : Nat} {cs : List Value} {x : DataW H × List MemPlace} (hs : P.underlying t = some (.struct fs)) (h : DataW.trod enc P w base spare held n t cs = some x) {j o : Nat} {c : Value}
    (hj : (fs[j]?.map fun f => (f.type, f.offset)) = some (ty, o)) (hc : P.cellsOf ty = 1) (he : cs[o]? = some c) : ∃ (y : DataW H × List MemPlace) (m : Nat), DataW.trod enc P w base spare held m ty [c] = some y := by
  obtain ⟨y, m, h1⟩ := some_field hs h hj
  obtain ⟨ho, hoe⟩ := List.getElem?_eq_some_iff.1 he
  rw [hc, List.drop_eq_getElem_cons ho] at h1
  exact ⟨y, m, by rw [hoe] at h1; simpa using h1⟩
end
end Go.Proofs.Ytacohanlpgkdeaa
