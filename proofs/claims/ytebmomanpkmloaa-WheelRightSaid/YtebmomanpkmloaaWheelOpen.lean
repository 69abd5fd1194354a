/- Acts, numbers of 16 bits, bools among a law's arguments, opened. No condition. -/
import Derived.Test.YtebmomanpkmloaaFields
import Derived.Test.YtebmomanpkmloaaWheelAct
namespace Go.Proofs.Ytebmomanpkmloaa
open Go.ChangeShapes Go.WideShapes Go.ChangeAt Go.RowKit
set_option linter.unusedVariables false

theorem W.oneInt : Try.prog.cellsOf 3 = 1 := by kernel_rfl
theorem W.oneBool : Try.prog.cellsOf 4 = 1 := by kernel_rfl
theorem W.oneU16 : Try.prog.cellsOf 49 = 1 := by kernel_rfl
theorem W.cellsAct : Try.prog.cellsOf 30 = 3 := by kernel_rfl
theorem act_fields : ∃ fs : Array Field, Try.prog.underlying 30 = some (.struct fs) ∧ (fs[0]?.map fun f => (f.type, f.offset)) = some (3, 0) ∧ (fs[1]?.map fun f => (f.type, f.offset)) = some (3, 1) ∧ (fs[2]?.map fun f => (f.type, f.offset)) = some (3, 2) :=
  ⟨_, Try.underlying30, rfl, rfl, rfl⟩
theorem wf_I64 {n : Int} (h : (Lit.int .i64 n).wf = true) : I64 n := bounds_i64 h
section
variable {H : Type} {enc : TypeId × Value → H} {w : World} {base : Nat} {spare : Nat → Bool} {held : Bool}
/-- three cells that are an act. -/
theorem act_cells {n : Nat} {cs : List Value} {x : DataW H × List MemPlace} (h : DataW.trod enc Try.prog w base spare held n 30 cs = some x) (hl : cs.length = 3) : ∃ a : Ac, I64 a.num ∧ cs = acL a := by
  obtain ⟨fs, hs, t0, t1, t2⟩ := act_fields
  match cs, hl with
  | [c0, c1, c2], _ =>
    obtain ⟨_, _, g0⟩ := one_field (c := c0) hs h t0 W.oneInt rfl
    obtain ⟨kind, rfl, _⟩ := int_field Try.underlying3 g0
    obtain ⟨_, _, g1⟩ := one_field (c := c1) hs h t1 W.oneInt rfl
    obtain ⟨num, rfl, hn⟩ := int_field Try.underlying3 g1
    obtain ⟨_, _, g2⟩ := one_field (c := c2) hs h t2 W.oneInt rfl
    obtain ⟨at_, rfl, _⟩ := int_field Try.underlying3 g2
    exact ⟨⟨kind, num, at_⟩, wf_I64 hn, rfl⟩
instance : Inhabited Ac := ⟨⟨0, 0, 0⟩⟩
end
/-- acts that came in. -/
theorem open_acts {H : Type} {enc : TypeId × Value → H} {w : World} {base : Nat} {spare : Nat → Bool} {held : Bool} {r : Reach} {b0 : Nat} {v : Value} {d : DataW H} {ps : List MemPlace}
    (hv : Value.okWide Try.prog w r b0 22 v) (h : DataW.Trod enc Try.prog w base spare held 22 v d ps) :
    ∃ (A : Option Addr) (l : List Ac) (c : Nat), v = .slice A l.length c ∧ AcsAt w l A c := by
  obtain ⟨a0, len0, cap0, rfl⟩ := okWide_slice Try.underlying22 hv
  obtain ⟨fuel, hf0⟩ := h
  have hf : DataW.trod enc Try.prog w base spare held fuel 22 [.slice a0 len0 cap0] = some (d, ps) := by simpa [Value.cells] using hf0
  rcases Go.Deep.open_slice Try.underlying22 hf with ⟨hcs, _⟩ | ⟨a, len, cap, m, n', D, Pl, hcs, hb', hl, hm, hmm, hx, hi⟩
  · simp at hcs
    obtain ⟨rfl, rfl, rfl⟩ := hcs
    exact ⟨none, [], 0, rfl, ⟨by simp, by omega, fun _ => rfl, .inl rfl, fun a h => by cases h⟩⟩
  · simp at hcs
    obtain ⟨rfl, rfl, rfl⟩ := hcs
    unfold maxLen at hm
    have hlm : len0 ≤ m := by rw [hmm]; split <;> omega
    have one : ∀ i, i < len0 → ∃ o : Ac, I64 o.num ∧ ∀ j v, (acL o)[j]? = some v → w.cell? (a.add (i * 3 + j)) = some v := by
      intro i hil
      obtain ⟨cs', hc, ht'⟩ := hi i (by omega)
      rw [W.cellsAct] at hc
      obtain ⟨_, hcl, hat⟩ := World.cells?_some hc
      obtain ⟨o, ro, rfl⟩ := act_cells ht' hcl
      refine ⟨o, ro, fun j v hv => ?_⟩
      have hj : j < 3 := by have := (List.getElem?_eq_some_iff.1 hv).1; simpa using this
      rw [← Go.Deep.add_add, hat j hj, hv]
    obtain ⟨f, hf⟩ := Go.Deep.choose_lt one
    have hlen : ((List.range len0).map f).length = len0 := by simp
    refine ⟨some a, (List.range len0).map f, cap0, by simp, ⟨by simpa using hl, by omega, (fun h => by cases h), ?_, fun o ho => ?_⟩⟩
    rotate_left
    · obtain ⟨k, hk, rfl⟩ := List.mem_map.1 ho
      exact (hf k (List.mem_range.1 hk)).1
    refine .inr ⟨a, rfl, fun j u hj => ?_⟩
    have hjl := (List.getElem?_eq_some_iff.1 hj).1
    rw [flat_len Ac.L 3 Ac.len, hlen] at hjl
    have hq : j / 3 < len0 := by omega
    have hr : j % 3 < 3 := by omega
    have e : j = j / 3 * 3 + j % 3 := by omega
    rw [e, flat_get Ac.L 3 Ac.len _ _ _ (by rw [hlen]; exact hq) hr] at hj
    have hg : ((List.range len0).map f)[j / 3]'(by rw [hlen]; exact hq) = f (j / 3) := by simp
    rw [hg] at hj
    rw [e]
    exact (hf _ hq).2 _ _ hj
/-- numbers of 16 bits that came in. -/
theorem open_u16s {H : Type} {enc : TypeId × Value → H} {w : World} {base b0 : Nat} {spare : Nat → Bool} {held : Bool} {r : Reach} {v : Value} {d : DataW H} {ps : List MemPlace}
    (hval : Value.okWide Try.prog w r b0 48 v) (hd : DataW.Trod enc Try.prog w base spare held 48 v d ps) :
    ∃ (A : Option Addr) (l : List Int) (c : Nat), v = .slice A l.length c ∧ InsAt .u16 w l A c ∧ ∀ n ∈ l, 0 ≤ n ∧ n ≤ 65535 := by
  obtain ⟨a0, len, cap, rfl⟩ := okWide_slice Try.underlying48 hval
  obtain ⟨fuel, hf⟩ := hd
  rcases open_ints Try.underlying48 Try.underlying49 W.oneU16 hf with ⟨hcs, _⟩ | ⟨a, len', cap', zs, hcs, _, hl, hm, hz, _, hcell, hwz⟩
  · simp [Value.cells] at hcs
    obtain ⟨rfl, rfl, rfl⟩ := hcs
    exact ⟨none, [], 0, rfl, ⟨by simp, by omega, fun _ => rfl, .inl rfl⟩, fun n h => by cases h⟩
  · simp [Value.cells] at hcs
    obtain ⟨rfl, rfl, rfl⟩ := hcs
    have hlz : len ≤ zs.length := by rw [hz]; split <;> omega
    unfold maxLen at hm
    refine ⟨some a, zs.take len, cap, by rw [List.length_take, Nat.min_eq_left hlz], ⟨by rw [List.length_take]; omega, by omega, (fun h => by cases h), .inr ⟨a, rfl, fun j u hj => ?_⟩⟩, fun n hn => bounds_u16 (hwz n (List.mem_of_mem_take hn))⟩
    rw [List.map_take, List.getElem?_take] at hj
    split at hj
    · rw [List.getElem?_map, Option.map_eq_some_iff] at hj
      obtain ⟨n, hn, rfl⟩ := hj
      have hjl := (List.getElem?_eq_some_iff.1 hn).1
      rw [hcell j hjl, List.getD_eq_getElem?_getD, hn]
      rfl
    · cases hj
/-- bools that came in. -/
theorem open_blsW {H : Type} {enc : TypeId × Value → H} {w : World} {base b0 : Nat} {spare : Nat → Bool} {held : Bool} {r : Reach} {v : Value} {d : DataW H} {ps : List MemPlace}
    (hv : Value.okWide Try.prog w r b0 52 v) (h : DataW.Trod enc Try.prog w base spare held 52 v d ps) :
    ∃ (A : Option Addr) (l : List Bool) (c : Nat), v = .slice A l.length c ∧ BlsAt w l A c := by
  obtain ⟨a0, len0, cap0, rfl⟩ := okWide_slice Try.underlying52 hv
  obtain ⟨fuel, hf0⟩ := h
  have hf : DataW.trod enc Try.prog w base spare held fuel 52 [.slice a0 len0 cap0] = some (d, ps) := by simpa [Value.cells] using hf0
  rcases Go.Deep.open_slice Try.underlying52 hf with ⟨hcs, _⟩ | ⟨a, len, cap, m, n', D, Pl, hcs, hb', hl, hm, hmm, hx, hi⟩
  · simp at hcs
    obtain ⟨rfl, rfl, rfl⟩ := hcs
    exact ⟨none, [], 0, rfl, ⟨by simp, by omega, fun _ => rfl, .inl rfl⟩⟩
  · simp at hcs
    obtain ⟨rfl, rfl, rfl⟩ := hcs
    unfold maxLen at hm
    have hlm : len0 ≤ m := by rw [hmm]; split <;> omega
    have one : ∀ i, i < len0 → ∃ o : Bool, w.cell? (a.add i) = some (.bool o) := by
      intro i hil
      obtain ⟨cs', hc, ht'⟩ := hi i (by omega)
      rw [W.oneBool] at hc
      obtain ⟨_, hcl, hat⟩ := World.cells?_some hc
      match cs', hcl with
      | [c0], _ =>
        obtain ⟨o, rfl⟩ := bool_field Try.underlying4 ht'
        refine ⟨o, ?_⟩
        have := hat 0 (by omega)
        rw [Nat.mul_one] at this
        simpa [addr_zero] using this
    obtain ⟨f, hf⟩ := Go.Deep.choose_lt one
    have hlen : ((List.range len0).map f).length = len0 := by simp
    refine ⟨some a, (List.range len0).map f, cap0, by simp, ⟨by simpa using hl, by omega, (fun h => by cases h), ?_⟩⟩
    refine .inr ⟨a, rfl, fun j u hj => ?_⟩
    rw [List.getElem?_map, Option.map_eq_some_iff] at hj
    obtain ⟨o, ho, rfl⟩ := hj
    rw [List.getElem?_map, Option.map_eq_some_iff] at ho
    obtain ⟨k, hk, rfl⟩ := ho
    obtain ⟨hk1, hk2⟩ := List.getElem?_eq_some_iff.1 hk
    simp at hk1 hk2
    subst hk2
    exact hf _ hk1
end Go.Proofs.Ytebmomanpkmloaa
