/- Rules among a law's arguments, opened. No condition. -/
import Derived.Test.YtacohanlpgkdeaaFields
import Derived.Test.YtacohanlpgkdeaaRulesV
namespace Go.Proofs.Ytacohanlpgkdeaa
open Go.ChangeShapes Go.WideShapes Go.ChangeAt Go.RowKit
set_option linter.unusedVariables false

theorem Zru.oneInt : Try.prog.cellsOf 3 = 1 := by kernel_rfl
theorem Zru.oneU32 : Try.prog.cellsOf 23 = 1 := by kernel_rfl
theorem Zru.cells : Try.prog.cellsOf 25 = 10 := by kernel_rfl
theorem ruz_fields : ∃ fs : Array Field, Try.prog.underlying 25 = some (.struct fs) ∧ (fs[0]?.map fun f => (f.type, f.offset)) = some (3, 0) ∧ (fs[1]?.map fun f => (f.type, f.offset)) = some (3, 1) ∧ (fs[2]?.map fun f => (f.type, f.offset)) = some (3, 2) ∧ (fs[3]?.map fun f => (f.type, f.offset)) = some (23, 3) ∧ (fs[4]?.map fun f => (f.type, f.offset)) = some (23, 4) ∧ (fs[5]?.map fun f => (f.type, f.offset)) = some (3, 5) ∧ (fs[6]?.map fun f => (f.type, f.offset)) = some (3, 6) ∧ (fs[7]?.map fun f => (f.type, f.offset)) = some (3, 7) ∧ (fs[8]?.map fun f => (f.type, f.offset)) = some (3, 8) ∧ (fs[9]?.map fun f => (f.type, f.offset)) = some (3, 9) :=
  ⟨_, Try.underlying25, rfl, rfl, rfl, rfl, rfl, rfl, rfl, rfl, rfl, rfl⟩
section
variable {H : Type} {enc : TypeId × Value → H} {w : World} {base : Nat} {spare : Nat → Bool} {held : Bool}
/-- cells that are one. -/
theorem ruz_cells {n : Nat} {cs : List Value} {x : DataW H × List MemPlace} (h : DataW.trod enc Try.prog w base spare held n 25 cs = some x) (hl : cs.length = 10) : ∃ r : Ru, RngRu r ∧ cs = ruL r := by
  obtain ⟨fs, hs, t0, t1, t2, t3, t4, t5, t6, t7, t8, t9⟩ := ruz_fields
  match cs, hl with
  | [c0, c1, c2, c3, c4, c5, c6, c7, c8, c9], _ =>
    obtain ⟨_, _, g0⟩ := one_field (c := c0) hs h t0 Zru.oneInt rfl
    obtain ⟨fr, rfl, w0⟩ := int_field Try.underlying3 g0
    obtain ⟨_, _, g1⟩ := one_field (c := c1) hs h t1 Zru.oneInt rfl
    obtain ⟨to_, rfl, w1⟩ := int_field Try.underlying3 g1
    obtain ⟨_, _, g2⟩ := one_field (c := c2) hs h t2 Zru.oneInt rfl
    obtain ⟨proto, rfl, w2⟩ := int_field Try.underlying3 g2
    obtain ⟨_, _, g3⟩ := one_field (c := c3) hs h t3 Zru.oneU32 rfl
    obtain ⟨src, rfl, w3⟩ := int_field Try.underlying23 g3
    obtain ⟨_, _, g4⟩ := one_field (c := c4) hs h t4 Zru.oneU32 rfl
    obtain ⟨dst, rfl, w4⟩ := int_field Try.underlying23 g4
    obtain ⟨_, _, g5⟩ := one_field (c := c5) hs h t5 Zru.oneInt rfl
    obtain ⟨sbits, rfl, w5⟩ := int_field Try.underlying3 g5
    obtain ⟨_, _, g6⟩ := one_field (c := c6) hs h t6 Zru.oneInt rfl
    obtain ⟨dbits, rfl, w6⟩ := int_field Try.underlying3 g6
    obtain ⟨_, _, g7⟩ := one_field (c := c7) hs h t7 Zru.oneInt rfl
    obtain ⟨lo, rfl, w7⟩ := int_field Try.underlying3 g7
    obtain ⟨_, _, g8⟩ := one_field (c := c8) hs h t8 Zru.oneInt rfl
    obtain ⟨hi, rfl, w8⟩ := int_field Try.underlying3 g8
    obtain ⟨_, _, g9⟩ := one_field (c := c9) hs h t9 Zru.oneInt rfl
    obtain ⟨act, rfl, w9⟩ := int_field Try.underlying3 g9
    exact ⟨⟨fr, to_, proto, src, dst, sbits, dbits, lo, hi, act⟩, ⟨⟨(bounds_u32 w3).1, (bounds_u32 w3).2⟩, ⟨(bounds_u32 w4).1, (bounds_u32 w4).2⟩⟩, rfl⟩
instance : Inhabited Ru := ⟨⟨0, 0, 0, 0, 0, 0, 0, 0, 0, 0⟩⟩
theorem ruzs_field {n : Nat} {c : Value} {y : DataW H × List MemPlace} (hf : DataW.trod enc Try.prog w base spare held n 22 [c] = some y) :
    ∃ (A : Option Addr) (l : List Ru) (cp : Nat), c = .slice A l.length cp ∧ RusAt w l A cp := by
  rcases Go.Deep.open_slice Try.underlying22 hf with ⟨hcs, _⟩ | ⟨a, len, cap, m, n', D, Pl, hcs, hb', hl, hm, hmm, hx, hi⟩
  · simp at hcs
    subst hcs
    exact ⟨none, [], 0, rfl, ⟨by simp, by omega, fun _ => rfl, .inl rfl, fun r h => by cases h⟩⟩
  · simp at hcs
    subst hcs
    unfold maxLen at hm
    have hlm : len ≤ m := by rw [hmm]; split <;> omega
    have one : ∀ i, i < len → ∃ o : Ru, RngRu o ∧ ∀ j v, (ruL o)[j]? = some v → w.cell? (a.add (i * 10 + j)) = some v := by
      intro i hil
      obtain ⟨cs', hc, ht'⟩ := hi i (by omega)
      rw [Zru.cells] at hc
      obtain ⟨_, hcl, hat⟩ := World.cells?_some hc
      obtain ⟨o, ro, rfl⟩ := ruz_cells ht' hcl
      refine ⟨o, ro, fun j v hv => ?_⟩
      have hj : j < 10 := by have := (List.getElem?_eq_some_iff.1 hv).1; simpa using this
      rw [← Go.Deep.add_add, hat j hj, hv]
    obtain ⟨f, hf⟩ := Go.Deep.choose_lt one
    have hlen : ((List.range len).map f).length = len := by simp
    have hget : ∀ i, i < len → ((List.range len).map f)[i]? = some (f i) := fun i hi => by simp [hi]
    refine ⟨some a, (List.range len).map f, cap, by simp, ⟨by simpa using hl, by omega, (fun h => by cases h), ?_, fun r hr => ?_⟩⟩
    · refine .inr ⟨a, rfl, fun j u hj => ?_⟩
      have hjl := (List.getElem?_eq_some_iff.1 hj).1
      rw [flat_len Ru.L 10 Ru.len, hlen] at hjl
      have hq : j / 10 < len := by omega
      have hr : j % 10 < 10 := by omega
      have e : j = j / 10 * 10 + j % 10 := by omega
      rw [e, flat_get Ru.L 10 Ru.len _ _ _ (by rw [hlen]; exact hq) hr] at hj
      have hg := hget _ hq
      rw [List.getElem?_eq_getElem (by rw [hlen]; exact hq)] at hg
      injection hg with hg
      rw [hg] at hj
      rw [e]
      exact (hf _ hq).2 _ _ hj
    · obtain ⟨i, hi, rfl⟩ := List.mem_map.1 hr
      exact (hf i (List.mem_range.1 hi)).1
end
/-- a row that came in. -/
theorem open_rus {H : Type} {enc : TypeId × Value → H} {w : World} {base : Nat} {spare : Nat → Bool} {held : Bool} {r : Reach} {b0 : Nat} {v : Value} {d : DataW H} {ps : List MemPlace}
    (hv : Value.okWide Try.prog w r b0 22 v) (h : DataW.Trod enc Try.prog w base spare held 22 v d ps) :
    ∃ (A : Option Addr) (l : List Ru) (c : Nat), v = .slice A l.length c ∧ RusAt w l A c := by
  obtain ⟨a0, len, cap, rfl⟩ := okWide_slice Try.underlying22 hv
  obtain ⟨fuel, hf⟩ := h
  have hf' : DataW.trod enc Try.prog w base spare held fuel 22 [.slice a0 len cap] = some (d, ps) := by simpa [Value.cells] using hf
  exact ruzs_field hf'
theorem ruz_one : ∃ fs : Array Field, Try.prog.underlying 25 = some (.struct fs) ∧ Go.Deep.oneCellFields Try.prog fs = true ∧ Try.prog.cellsOf 25 = fs.size ∧ fs.size = 10 ∧
    (fs[0]?.map (·.type)) = some 3 ∧ (fs[1]?.map (·.type)) = some 3 ∧ (fs[2]?.map (·.type)) = some 3 ∧ (fs[3]?.map (·.type)) = some 23 ∧ (fs[4]?.map (·.type)) = some 23 ∧ (fs[5]?.map (·.type)) = some 3 ∧ (fs[6]?.map (·.type)) = some 3 ∧ (fs[7]?.map (·.type)) = some 3 ∧ (fs[8]?.map (·.type)) = some 3 ∧ (fs[9]?.map (·.type)) = some 3 :=
  ⟨_, Try.underlying25, by kernel_rfl, by kernel_rfl, rfl, rfl, rfl, rfl, rfl, rfl, rfl, rfl, rfl, rfl, rfl⟩
set_option maxRecDepth 100000 in
/-- one that came in. -/
theorem open_ru {H : Type} {enc : TypeId × Value → H} {w : World} {base : Nat} {spare : Nat → Bool} {held : Bool} {r : Reach} {b0 : Nat} {v : Value} {d : DataW H} {ps : List MemPlace}
    (hv : Value.okWide Try.prog w r b0 25 v) (h : DataW.Trod enc Try.prog w base spare held 25 v d ps) :
    ∃ t : Ru, v = ruV t ∧ RngRu t := by
  obtain ⟨fs, hs, hone, hC, h5, t0, t1, t2, t3, t4, t5, t6, t7, t8, t9⟩ := ruz_one
  obtain ⟨cs, rfl, hl, hf⟩ := open_struct hs hone hC hv h
  rw [h5] at hl
  match cs, hl with
  | [c0, c1, c2, c3, c4, c5, c6, c7, c8, c9], _ =>
    obtain ⟨f0, e0, y0⟩ := Option.map_eq_some_iff.1 t0
    obtain ⟨_, _, g0⟩ := hf 0 f0 c0 e0 rfl
    rw [y0] at g0
    obtain ⟨fr, rfl, w0⟩ := int_field Try.underlying3 g0
    obtain ⟨f1, e1, y1⟩ := Option.map_eq_some_iff.1 t1
    obtain ⟨_, _, g1⟩ := hf 1 f1 c1 e1 rfl
    rw [y1] at g1
    obtain ⟨to_, rfl, w1⟩ := int_field Try.underlying3 g1
    obtain ⟨f2, e2, y2⟩ := Option.map_eq_some_iff.1 t2
    obtain ⟨_, _, g2⟩ := hf 2 f2 c2 e2 rfl
    rw [y2] at g2
    obtain ⟨proto, rfl, w2⟩ := int_field Try.underlying3 g2
    obtain ⟨f3, e3, y3⟩ := Option.map_eq_some_iff.1 t3
    obtain ⟨_, _, g3⟩ := hf 3 f3 c3 e3 rfl
    rw [y3] at g3
    obtain ⟨src, rfl, w3⟩ := int_field Try.underlying23 g3
    obtain ⟨f4, e4, y4⟩ := Option.map_eq_some_iff.1 t4
    obtain ⟨_, _, g4⟩ := hf 4 f4 c4 e4 rfl
    rw [y4] at g4
    obtain ⟨dst, rfl, w4⟩ := int_field Try.underlying23 g4
    obtain ⟨f5, e5, y5⟩ := Option.map_eq_some_iff.1 t5
    obtain ⟨_, _, g5⟩ := hf 5 f5 c5 e5 rfl
    rw [y5] at g5
    obtain ⟨sbits, rfl, w5⟩ := int_field Try.underlying3 g5
    obtain ⟨f6, e6, y6⟩ := Option.map_eq_some_iff.1 t6
    obtain ⟨_, _, g6⟩ := hf 6 f6 c6 e6 rfl
    rw [y6] at g6
    obtain ⟨dbits, rfl, w6⟩ := int_field Try.underlying3 g6
    obtain ⟨f7, e7, y7⟩ := Option.map_eq_some_iff.1 t7
    obtain ⟨_, _, g7⟩ := hf 7 f7 c7 e7 rfl
    rw [y7] at g7
    obtain ⟨lo, rfl, w7⟩ := int_field Try.underlying3 g7
    obtain ⟨f8, e8, y8⟩ := Option.map_eq_some_iff.1 t8
    obtain ⟨_, _, g8⟩ := hf 8 f8 c8 e8 rfl
    rw [y8] at g8
    obtain ⟨hi, rfl, w8⟩ := int_field Try.underlying3 g8
    obtain ⟨f9, e9, y9⟩ := Option.map_eq_some_iff.1 t9
    obtain ⟨_, _, g9⟩ := hf 9 f9 c9 e9 rfl
    rw [y9] at g9
    obtain ⟨act, rfl, w9⟩ := int_field Try.underlying3 g9
    exact ⟨⟨fr, to_, proto, src, dst, sbits, dbits, lo, hi, act⟩, rfl, ⟨⟨(bounds_u32 w3).1, (bounds_u32 w3).2⟩, ⟨(bounds_u32 w4).1, (bounds_u32 w4).2⟩⟩⟩
end Go.Proofs.Ytacohanlpgkdeaa
