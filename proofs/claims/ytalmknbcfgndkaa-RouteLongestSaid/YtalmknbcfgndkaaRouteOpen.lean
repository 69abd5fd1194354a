/- Routes among a law's arguments, opened. No condition. -/
import Derived.Test.YtalmknbcfgndkaaFields
import Derived.Test.YtalmknbcfgndkaaRouteV
namespace Go.Proofs.Ytalmknbcfgndkaa
open Go.ChangeShapes Go.WideShapes Go.ChangeAt Go.RowKit
set_option linter.unusedVariables false

theorem Zrt.oneInt : Try.prog.cellsOf 3 = 1 := by kernel_rfl
theorem Zrt.oneU32 : Try.prog.cellsOf 23 = 1 := by kernel_rfl
theorem Zrt.cells : Try.prog.cellsOf 26 = 4 := by kernel_rfl
theorem rtz_fields : ∃ fs : Array Field, Try.prog.underlying 26 = some (.struct fs) ∧ (fs[0]?.map fun f => (f.type, f.offset)) = some (23, 0) ∧ (fs[1]?.map fun f => (f.type, f.offset)) = some (3, 1) ∧ (fs[2]?.map fun f => (f.type, f.offset)) = some (3, 2) ∧ (fs[3]?.map fun f => (f.type, f.offset)) = some (3, 3) :=
  ⟨_, Try.underlying26, rfl, rfl, rfl, rfl⟩
section
variable {H : Type} {enc : TypeId × Value → H} {w : World} {base : Nat} {spare : Nat → Bool} {held : Bool}
/-- cells that are one. -/
theorem rtz_cells {n : Nat} {cs : List Value} {x : DataW H × List MemPlace} (h : DataW.trod enc Try.prog w base spare held n 26 cs = some x) (hl : cs.length = 4) : ∃ r : Rt, RngRt r ∧ cs = rtL r := by
  obtain ⟨fs, hs, t0, t1, t2, t3⟩ := rtz_fields
  match cs, hl with
  | [c0, c1, c2, c3], _ =>
    obtain ⟨_, _, g0⟩ := one_field (c := c0) hs h t0 Zrt.oneU32 rfl
    obtain ⟨net, rfl, w0⟩ := int_field Try.underlying23 g0
    obtain ⟨_, _, g1⟩ := one_field (c := c1) hs h t1 Zrt.oneInt rfl
    obtain ⟨bits, rfl, w1⟩ := int_field Try.underlying3 g1
    obtain ⟨_, _, g2⟩ := one_field (c := c2) hs h t2 Zrt.oneInt rfl
    obtain ⟨zone, rfl, w2⟩ := int_field Try.underlying3 g2
    obtain ⟨_, _, g3⟩ := one_field (c := c3) hs h t3 Zrt.oneInt rfl
    obtain ⟨mtu, rfl, w3⟩ := int_field Try.underlying3 g3
    exact ⟨⟨net, bits, zone, mtu⟩, ⟨⟨(bounds_u32 w0).1, (bounds_u32 w0).2⟩⟩, rfl⟩
instance : Inhabited Rt := ⟨⟨0, 0, 0, 0⟩⟩
theorem rtzs_field {n : Nat} {c : Value} {y : DataW H × List MemPlace} (hf : DataW.trod enc Try.prog w base spare held n 22 [c] = some y) :
    ∃ (A : Option Addr) (l : List Rt) (cp : Nat), c = .slice A l.length cp ∧ RtsAt w l A cp := by
  rcases Go.Deep.open_slice Try.underlying22 hf with ⟨hcs, _⟩ | ⟨a, len, cap, m, n', D, Pl, hcs, hb', hl, hm, hmm, hx, hi⟩
  · simp at hcs
    subst hcs
    exact ⟨none, [], 0, rfl, ⟨by simp, by omega, fun _ => rfl, .inl rfl, fun r h => by cases h⟩⟩
  · simp at hcs
    subst hcs
    unfold maxLen at hm
    have hlm : len ≤ m := by rw [hmm]; split <;> omega
    have one : ∀ i, i < len → ∃ o : Rt, RngRt o ∧ ∀ j v, (rtL o)[j]? = some v → w.cell? (a.add (i * 4 + j)) = some v := by
      intro i hil
      obtain ⟨cs', hc, ht'⟩ := hi i (by omega)
      rw [Zrt.cells] at hc
      obtain ⟨_, hcl, hat⟩ := World.cells?_some hc
      obtain ⟨o, ro, rfl⟩ := rtz_cells ht' hcl
      refine ⟨o, ro, fun j v hv => ?_⟩
      have hj : j < 4 := by have := (List.getElem?_eq_some_iff.1 hv).1; simpa using this
      rw [← Go.Deep.add_add, hat j hj, hv]
    obtain ⟨f, hf⟩ := Go.Deep.choose_lt one
    have hlen : ((List.range len).map f).length = len := by simp
    have hget : ∀ i, i < len → ((List.range len).map f)[i]? = some (f i) := fun i hi => by simp [hi]
    refine ⟨some a, (List.range len).map f, cap, by simp, ⟨by simpa using hl, by omega, (fun h => by cases h), ?_, fun r hr => ?_⟩⟩
    · refine .inr ⟨a, rfl, fun j u hj => ?_⟩
      have hjl := (List.getElem?_eq_some_iff.1 hj).1
      rw [flat_len Rt.L 4 Rt.len, hlen] at hjl
      have hq : j / 4 < len := by omega
      have hr : j % 4 < 4 := by omega
      have e : j = j / 4 * 4 + j % 4 := by omega
      rw [e, flat_get Rt.L 4 Rt.len _ _ _ (by rw [hlen]; exact hq) hr] at hj
      have hg := hget _ hq
      rw [List.getElem?_eq_getElem (by rw [hlen]; exact hq)] at hg
      injection hg with hg
      rw [hg] at hj
      rw [e]
      exact (hf _ hq).2 _ _ hj
    · obtain ⟨i, hi, rfl⟩ := List.mem_map.1 hr
      exact (hf i (List.mem_range.1 hi)).1
end
/-- a row that came in. -/
theorem open_rts {H : Type} {enc : TypeId × Value → H} {w : World} {base : Nat} {spare : Nat → Bool} {held : Bool} {r : Reach} {b0 : Nat} {v : Value} {d : DataW H} {ps : List MemPlace}
    (hv : Value.okWide Try.prog w r b0 22 v) (h : DataW.Trod enc Try.prog w base spare held 22 v d ps) :
    ∃ (A : Option Addr) (l : List Rt) (c : Nat), v = .slice A l.length c ∧ RtsAt w l A c := by
  obtain ⟨a0, len, cap, rfl⟩ := okWide_slice Try.underlying22 hv
  obtain ⟨fuel, hf⟩ := h
  have hf' : DataW.trod enc Try.prog w base spare held fuel 22 [.slice a0 len cap] = some (d, ps) := by simpa [Value.cells] using hf
  exact rtzs_field hf'
theorem rtz_one : ∃ fs : Array Field, Try.prog.underlying 26 = some (.struct fs) ∧ Go.Deep.oneCellFields Try.prog fs = true ∧ Try.prog.cellsOf 26 = fs.size ∧ fs.size = 4 ∧
    (fs[0]?.map (·.type)) = some 23 ∧ (fs[1]?.map (·.type)) = some 3 ∧ (fs[2]?.map (·.type)) = some 3 ∧ (fs[3]?.map (·.type)) = some 3 :=
  ⟨_, Try.underlying26, by kernel_rfl, by kernel_rfl, rfl, rfl, rfl, rfl, rfl⟩
set_option maxRecDepth 100000 in
/-- one that came in. -/
theorem open_rt {H : Type} {enc : TypeId × Value → H} {w : World} {base : Nat} {spare : Nat → Bool} {held : Bool} {r : Reach} {b0 : Nat} {v : Value} {d : DataW H} {ps : List MemPlace}
    (hv : Value.okWide Try.prog w r b0 26 v) (h : DataW.Trod enc Try.prog w base spare held 26 v d ps) :
    ∃ t : Rt, v = rtV t ∧ RngRt t := by
  obtain ⟨fs, hs, hone, hC, h5, t0, t1, t2, t3⟩ := rtz_one
  obtain ⟨cs, rfl, hl, hf⟩ := open_struct hs hone hC hv h
  rw [h5] at hl
  match cs, hl with
  | [c0, c1, c2, c3], _ =>
    obtain ⟨f0, e0, y0⟩ := Option.map_eq_some_iff.1 t0
    obtain ⟨_, _, g0⟩ := hf 0 f0 c0 e0 rfl
    rw [y0] at g0
    obtain ⟨net, rfl, w0⟩ := int_field Try.underlying23 g0
    obtain ⟨f1, e1, y1⟩ := Option.map_eq_some_iff.1 t1
    obtain ⟨_, _, g1⟩ := hf 1 f1 c1 e1 rfl
    rw [y1] at g1
    obtain ⟨bits, rfl, w1⟩ := int_field Try.underlying3 g1
    obtain ⟨f2, e2, y2⟩ := Option.map_eq_some_iff.1 t2
    obtain ⟨_, _, g2⟩ := hf 2 f2 c2 e2 rfl
    rw [y2] at g2
    obtain ⟨zone, rfl, w2⟩ := int_field Try.underlying3 g2
    obtain ⟨f3, e3, y3⟩ := Option.map_eq_some_iff.1 t3
    obtain ⟨_, _, g3⟩ := hf 3 f3 c3 e3 rfl
    rw [y3] at g3
    obtain ⟨mtu, rfl, w3⟩ := int_field Try.underlying3 g3
    exact ⟨⟨net, bits, zone, mtu⟩, rfl, ⟨⟨(bounds_u32 w0).1, (bounds_u32 w0).2⟩⟩⟩
end Go.Proofs.Ytalmknbcfgndkaa
