/- A segment among a law's arguments, opened. No condition. -/
import Derived.Test.YtghgemmbbedopaaRows
import Derived.Deep.Slices
import Derived.Test.YtghgemmbbedopaaOpen
import Derived.Test.YtghgemmbbedopaaTcpR4
namespace Go.Proofs.Ytghgemmbbedopaa
open Go.ChangeShapes Go.WideShapes Go.ChangeAt Go.RowKit
set_option linter.unusedVariables false

theorem Try.cellsU8 : Try.prog.cellsOf 5 = 1 := by kernel_rfl
theorem tc_fields : ∃ fs : Array Field, Try.prog.underlying 26 = some (.struct fs) ∧ Go.Deep.oneCellFields Try.prog fs = true ∧ Try.prog.cellsOf 26 = fs.size ∧ fs.size = 9 ∧
    (fs[0]?.map (·.type)) = some 3 ∧ (fs[1]?.map (·.type)) = some 3 ∧ (fs[2]?.map (·.type)) = some 22 ∧ (fs[3]?.map (·.type)) = some 22 ∧ (fs[4]?.map (·.type)) = some 3 ∧ (fs[5]?.map (·.type)) = some 3 ∧ (fs[6]?.map (·.type)) = some 3 ∧ (fs[7]?.map (·.type)) = some 23 ∧ (fs[8]?.map (·.type)) = some 24 :=
  ⟨_, Try.underlying26, by kernel_rfl, by kernel_rfl, rfl, rfl, rfl, rfl, rfl, rfl, rfl, rfl, rfl, rfl⟩
theorem op_fields : ∃ fs : Array Field, Try.prog.underlying 39 = some (.struct fs) ∧ Go.Deep.oneCellFields Try.prog fs = true ∧ Try.prog.cellsOf 39 = 2 ∧ (fs[0]?.map (·.type)) = some 3 ∧ (fs[1]?.map (·.type)) = some 24 :=
  ⟨_, Try.underlying39, by kernel_rfl, by kernel_rfl, rfl, rfl⟩
theorem field_at {fs : Array Field} {j : Nat} {t : TypeId} (h : (fs[j]?.map (·.type)) = some t) : ∃ f, fs[j]? = some f ∧ f.type = t := by
  rw [Option.map_eq_some_iff] at h
  exact h
instance : Inhabited Op := ⟨⟨0, []⟩⟩
/-- a field that is a slice of options. -/
theorem opts_field {H : Type} {enc : TypeId × Value → H} {w : World} {base : Nat} {spare : Nat → Bool} {held : Bool} {n : Nat} {c : Value} {y : DataW H × List MemPlace} (hf : DataW.trod enc Try.prog w base spare held n 23 [c] = some y) :
    ∃ (A : Option Addr) (os : List Op) (cp : Nat), c = .slice A os.length cp ∧ os.length ≤ cp ∧ cp ≤ 9223372036854775807 ∧ (A = none → cp = 0) ∧ Os w w.heap.size A os := by
  obtain ⟨fs, hs, hone, hC, t0, t1⟩ := op_fields
  rcases Go.Deep.open_slice Try.underlying23 hf with ⟨hcs, _⟩ | ⟨a, len, cap, m, n', D, Pl, hcs, hb, hl, hm, hmm, hx, hi⟩
  · simp at hcs
    subst hcs
    exact ⟨none, [], 0, rfl, by simp, by omega, fun _ => rfl, .inl rfl⟩
  · simp at hcs
    subst hcs
    unfold maxLen at hm
    have hlm : len ≤ m := by rw [hmm]; split <;> omega
    have one : ∀ i, i < len → ∃ o : Op, w.cell? (a.add (i * 2)) = some (.int .i64 o.kind) ∧ ∃ Ad cd, w.cell? (a.add (i * 2 + 1)) = some (.slice Ad o.data.length cd) ∧ Bs w w.heap.size Ad o.data ∧ o.data.length ≤ cd ∧ cd ≤ 9223372036854775807 ∧ (Ad = none → cd = 0) := by
      intro i hil
      obtain ⟨cs', hc, ht'⟩ := hi i (by omega)
      rw [hC] at hc
      obtain ⟨ys, k, _, hy, hlen, hyl, hg⟩ := DataW.trod_struct hs ht'
      obtain ⟨_, hcl, hat⟩ := World.cells?_some hc
      match cs', hcl with
      | [u, v], _ =>
        obtain ⟨f0, e0, y0⟩ := field_at t0
        obtain ⟨f1, e1, y1⟩ := field_at t1
        obtain ⟨o0, k0⟩ := Go.Deep.hone_of hone 0 f0 e0
        obtain ⟨o1, k1⟩ := Go.Deep.hone_of hone 1 f1 e1
        have g0 := hg 0 f0 e0
        have g1 := hg 1 f1 e1
        rw [o0, k0, y0] at g0
        rw [o1, k1, y1] at g1
        simp at g0 g1
        have fl := hyl
        have s0 : 0 < fs.size := (Array.getElem?_eq_some_iff.1 e0).1
        have s1 : 1 < fs.size := (Array.getElem?_eq_some_iff.1 e1).1
        rw [List.getElem?_eq_getElem (by omega)] at g0
        rw [List.getElem?_eq_getElem (by omega)] at g1
        obtain ⟨kd, rfl, _⟩ := int_field Try.underlying3 g0
        obtain ⟨Ad, dat, cd, rfl, d1, d2, d3, d4⟩ := bytes_field Try.underlying24 Try.underlying5 Try.cellsU8 g1
        have h0 := hat 0 (by omega)
        have h1 := hat 1 (by omega)
        rw [Go.Deep.add_add] at h0 h1
        exact ⟨⟨kd, dat⟩, by simpa using h0, Ad, cd, by simpa using h1, d4, d1, d2, d3⟩
    obtain ⟨f, hf⟩ := Go.Deep.choose_lt one
    refine ⟨some a, (List.range len).map f, cap, by simp, by simpa using hl, by omega, (fun h => by cases h), ?_⟩
    by_cases h0 : len = 0
    · subst h0; exact .inl rfl
    · have hlt := World.block_lt_of_cell? w _ (hf 0 (by omega)).1
      rw [block_add] at hlt
      refine .inr ⟨a, rfl, hlt, fun j o hj => ?_⟩
      rw [List.getElem?_map, Option.map_eq_some_iff] at hj
      obtain ⟨j', hj', rfl⟩ := hj
      have hjl : j < len := by have := (List.getElem?_eq_some_iff.1 hj').1; simpa using this
      rw [List.getElem?_range hjl] at hj'
      cases hj'
      exact hf j hjl
/-- a segment that came in. -/
theorem open_tc {H : Type} {enc : TypeId × Value → H} {w : World} {base : Nat} {spare : Nat → Bool} {held : Bool} {r : Reach} {b0 : Nat} {v : Value} {d : DataW H} {ps : List MemPlace}
    (hv : Value.okWide Try.prog w r b0 26 v) (h : DataW.Trod enc Try.prog w base spare held 26 v d ps) :
    ∃ (t : Tc) (Ao : Option Addr) (co : Nat) (Ab : Option Addr) (cb : Nat), v = tcV t Ao co Ab cb ∧ TcIn w w.heap.size t Ao co Ab cb := by
  obtain ⟨fs, hs, hone, hC, h9, t0, t1, t2, t3, t4, t5, t6, t7, t8⟩ := tc_fields
  obtain ⟨cs, rfl, hl, hf⟩ := open_struct hs hone hC hv h
  rw [h9] at hl
  match cs, hl with
  | [c0, c1, c2, c3, c4, c5, c6, c7, c8], _ =>
    obtain ⟨f0, e0, y0⟩ := field_at t0
    obtain ⟨f1, e1, y1⟩ := field_at t1
    obtain ⟨f2, e2, y2⟩ := field_at t2
    obtain ⟨f3, e3, y3⟩ := field_at t3
    obtain ⟨f4, e4, y4⟩ := field_at t4
    obtain ⟨f5, e5, y5⟩ := field_at t5
    obtain ⟨f6, e6, y6⟩ := field_at t6
    obtain ⟨f7, e7, y7⟩ := field_at t7
    obtain ⟨f8, e8, y8⟩ := field_at t8
    obtain ⟨_, _, g0⟩ := hf 0 f0 c0 e0 rfl
    obtain ⟨_, _, g1⟩ := hf 1 f1 c1 e1 rfl
    obtain ⟨_, _, g2⟩ := hf 2 f2 c2 e2 rfl
    obtain ⟨_, _, g3⟩ := hf 3 f3 c3 e3 rfl
    obtain ⟨_, _, g4⟩ := hf 4 f4 c4 e4 rfl
    obtain ⟨_, _, g5⟩ := hf 5 f5 c5 e5 rfl
    obtain ⟨_, _, g6⟩ := hf 6 f6 c6 e6 rfl
    obtain ⟨_, _, g7⟩ := hf 7 f7 c7 e7 rfl
    obtain ⟨_, _, g8⟩ := hf 8 f8 c8 e8 rfl
    rw [y0] at g0
    rw [y1] at g1
    rw [y2] at g2
    rw [y3] at g3
    rw [y4] at g4
    rw [y5] at g5
    rw [y6] at g6
    rw [y7] at g7
    rw [y8] at g8
    obtain ⟨sport, rfl, _⟩ := int_field Try.underlying3 g0
    obtain ⟨dport, rfl, _⟩ := int_field Try.underlying3 g1
    obtain ⟨seq, rfl, w2⟩ := int_field Try.underlying22 g2
    obtain ⟨ack, rfl, w3⟩ := int_field Try.underlying22 g3
    obtain ⟨flags, rfl, _⟩ := int_field Try.underlying3 g4
    obtain ⟨win, rfl, _⟩ := int_field Try.underlying3 g5
    obtain ⟨urg, rfl, _⟩ := int_field Try.underlying3 g6
    obtain ⟨Ao, opts, co, rfl, o1, o2, o3, o4⟩ := opts_field g7
    obtain ⟨Ab, body, cb, rfl, b1, b2, b3, b4⟩ := bytes_field Try.underlying24 Try.underlying5 Try.cellsU8 g8
    exact ⟨⟨sport, dport, seq, ack, flags, win, urg, opts, body⟩, Ao, co, Ab, cb, rfl, (bounds_u32 w2).1, (bounds_u32 w2).2, (bounds_u32 w3).1, (bounds_u32 w3).2, o1, o2, o3, o4, b1, b2, b3, b4⟩
end Go.Proofs.Ytghgemmbbedopaa
