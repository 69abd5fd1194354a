/- Lemmas of layer 7, several texts in one. -/
import Derived.Test.YthejakbjekjhjaaQ05
import Derived.Test.YthejakbjekjhjaaRows
import Derived.Test.YthejakbjekjhjaaQ27
import Derived.Test.YthejakbjekjhjaaQ34
import Derived.WalkKit
import Derived.ProofKit
import Derived.OpenShut
import Derived.Test.YthejakbjekjhjaaQ01
import Derived.Test.YthejakbjekjhjaaQ35
/- A packet among a law's arguments, opened. No condition. -/
namespace Go.Proofs.Ythejakbjekjhjaa
open Go.ChangeShapes Go.WideShapes Go.ChangeAt Go.RowKit
set_option linter.unusedVariables false

theorem Try.cellsU8 : Try.prog.cellsOf 5 = 1 := by kernel_rfl
theorem pk_fields : ∃ fs : Array Field, Try.prog.underlying 33 = some (.struct fs) ∧ Go.Deep.oneCellFields Try.prog fs = true ∧ Try.prog.cellsOf 33 = fs.size ∧ fs.size = 11 ∧
    (fs[0]?.map (·.type)) = some 3 ∧ (fs[1]?.map (·.type)) = some 3 ∧ (fs[2]?.map (·.type)) = some 4 ∧ (fs[3]?.map (·.type)) = some 4 ∧ (fs[4]?.map (·.type)) = some 3 ∧ (fs[5]?.map (·.type)) = some 3 ∧ (fs[6]?.map (·.type)) = some 3 ∧ (fs[7]?.map (·.type)) = some 31 ∧ (fs[8]?.map (·.type)) = some 31 ∧ (fs[9]?.map (·.type)) = some 23 ∧ (fs[10]?.map (·.type)) = some 23 :=
  ⟨_, Try.underlying33, by kernel_rfl, by kernel_rfl, rfl, rfl, rfl, rfl, rfl, rfl, rfl, rfl, rfl, rfl, rfl, rfl⟩
theorem field_of {fs : Array Field} {j : Nat} {t : TypeId} (h : (fs[j]?.map (·.type)) = some t) : ∃ f, fs[j]? = some f ∧ f.type = t := by
  rw [Option.map_eq_some_iff] at h
  exact h
/-- a packet that came in. -/
theorem open_pk {H : Type} {enc : TypeId × Value → H} {w : World} {base : Nat} {spare : Nat → Bool} {held : Bool} {r : Reach} {b0 : Nat} {v : Value} {d : DataW H} {ps : List MemPlace}
    (hv : Value.okWide Try.prog w r b0 33 v) (h : DataW.Trod enc Try.prog w base spare held 33 v d ps) :
    ∃ (p : Pk) (Ao : Option Addr) (co : Nat) (Ab : Option Addr) (cb : Nat), v = pkV p Ao co Ab cb ∧ PkIn w p Ao co Ab cb := by
  obtain ⟨fs, hs, hone, hC, h11, t0, t1, t2, t3, t4, t5, t6, t7, t8, t9, t10⟩ := pk_fields
  obtain ⟨cs, rfl, hl, hf⟩ := open_struct hs hone hC hv h
  rw [h11] at hl
  match cs, hl with
  | [c0, c1, c2, c3, c4, c5, c6, c7, c8, c9, c10], _ =>
    obtain ⟨f0, e0, y0⟩ := field_of t0
    obtain ⟨f1, e1, y1⟩ := field_of t1
    obtain ⟨f2, e2, y2⟩ := field_of t2
    obtain ⟨f3, e3, y3⟩ := field_of t3
    obtain ⟨f4, e4, y4⟩ := field_of t4
    obtain ⟨f5, e5, y5⟩ := field_of t5
    obtain ⟨f6, e6, y6⟩ := field_of t6
    obtain ⟨f7, e7, y7⟩ := field_of t7
    obtain ⟨f8, e8, y8⟩ := field_of t8
    obtain ⟨f9, e9, y9⟩ := field_of t9
    obtain ⟨f10, e10, y10⟩ := field_of t10
    obtain ⟨_, _, g0⟩ := hf 0 f0 c0 e0 rfl
    obtain ⟨_, _, g1⟩ := hf 1 f1 c1 e1 rfl
    obtain ⟨_, _, g2⟩ := hf 2 f2 c2 e2 rfl
    obtain ⟨_, _, g3⟩ := hf 3 f3 c3 e3 rfl
    obtain ⟨_, _, g4⟩ := hf 4 f4 c4 e4 rfl
    obtain ⟨_, _, g5⟩ := hf 5 f5 c5 e5 rfl
    obtain ⟨_, _, g6⟩ := hf 6 f6 c6 e6 rfl
    obtain ⟨_, _, g7⟩ := hf 7 f7 c7 e7 rfl
    obtain ⟨_, _, g8⟩ := hf 8 f8 c8 e8 rfl
    obtain ⟨_, _, g9⟩ := hf 9 f9 c9 e9 rfl
    obtain ⟨_, _, g10⟩ := hf 10 f10 c10 e10 rfl
    rw [y0] at g0
    rw [y1] at g1
    rw [y2] at g2
    rw [y3] at g3
    rw [y4] at g4
    rw [y5] at g5
    rw [y6] at g6
    rw [y7] at g7
    rw [y8] at g8
    rw [y9] at g9
    rw [y10] at g10
    obtain ⟨tos, rfl, _⟩ := int_field Try.underlying3 g0
    obtain ⟨id, rfl, _⟩ := int_field Try.underlying3 g1
    obtain ⟨df, rfl⟩ := bool_field Try.underlying4 g2
    obtain ⟨mf, rfl⟩ := bool_field Try.underlying4 g3
    obtain ⟨off, rfl, _⟩ := int_field Try.underlying3 g4
    obtain ⟨ttl, rfl, _⟩ := int_field Try.underlying3 g5
    obtain ⟨proto, rfl, _⟩ := int_field Try.underlying3 g6
    obtain ⟨src, rfl, w7⟩ := int_field Try.underlying31 g7
    obtain ⟨dst, rfl, w8⟩ := int_field Try.underlying31 g8
    obtain ⟨Ao, opts, co, rfl, o1, o2, o3, o4⟩ := bytes_field Try.underlying23 Try.underlying5 Try.cellsU8 g9
    obtain ⟨Ab, body, cb, rfl, b1, b2, b3, b4⟩ := bytes_field Try.underlying23 Try.underlying5 Try.cellsU8 g10
    exact ⟨⟨tos, id, df, mf, off, ttl, proto, src, dst, opts, body⟩, Ao, co, Ab, cb, rfl, ⟨(bounds_u32 w7).1, (bounds_u32 w7).2, (bounds_u32 w8).1, (bounds_u32 w8).2⟩, o1, o2, o3, o4, b1, b2, b3, b4⟩
end Go.Proofs.Ythejakbjekjhjaa

/- The statements of this seat as given: each law returns true for every input, and its arguments read afterwards as they read before. -/
namespace Go.Proofs.Ythejakbjekjhjaa
open Go.ChangeShapes Go.WideShapes Go.ChangeAt Go.RowKit
set_option linter.unusedVariables false
theorem Try.own : ownKnob Try.prog.godebug = none := by kernel_rfl
theorem Try.laidOut : laidOutB Try.prog = true := by kernel_rfl
theorem Try.cells5 : Try.prog.cellsOf 5 = 1 := by kernel_rfl
namespace reasmWhole
set_option maxRecDepth 100000 in
theorem lifted (os : Go.Os) (started : os.Started) (H : Type) (enc : TypeId × Value → H) :
    ReturnsInHanded {} Try.checked os 4 .any (Rows.reasmWholeSpec.pre6 enc Try.prog Try.f4 Rows.reasmWholeRow.domain false) (Rows.reasmWholeSpec.post enc Try.prog Try.f4 false true false false) := by
  refine returnsInHanded_of_change (C := Try.checked) Try.own started (by kernel_rfl) Try.func4
    (ChangeSpec.witness6 (enc := enc) (C := Try.checked) false ⟨#[], #[.agg #[.int .i64 0, .int .i64 0, .bool false, .bool false, .int .i64 0, .int .i64 0, .int .i64 0, .int .u32 0, .int .u32 0, .slice none 0 0, .slice none 0 0], .slice none 0 0, .slice none 0 0], []⟩ 8 (by kernel_rfl) (by kernel_rfl) (by kernel_rfl) (by kernel_rfl)) ?_
  intro W base args ds gs before hval0 hW hcnd _
  have hval : ∀ (j : Nat) t v, Try.f4.params[j]? = some t → args[j]? = some v → Value.okWide Try.prog W .any base t v := hval0
  have hW' := hW
  obtain ⟨p, q, hA0, hV, rfl, hfz, hnd⟩ := hW
  have hA : DataW.TrodAll enc Try.prog W 0 (fun _ => true) true Try.f4.params.toList args.toList ds p := hA0
  rw [Try.params4] at hA hval
  obtain ⟨v0, vs0, d0, ds0, p0, q0, hargs, rfl, rfl, h0, r0⟩ := trodAll_cons hA
  obtain ⟨v1, vs1, d1, ds1, p1, q1, rfl, rfl, rfl, h1, r1⟩ := trodAll_cons r0
  obtain ⟨v2, vs2, d2, ds2, p2, q2, rfl, rfl, rfl, h2, r2⟩ := trodAll_cons r1
  obtain ⟨rfl, rfl, rfl⟩ := trodAll_nil r2
  obtain rfl : args = #[v0, v1, v2] := by cases args; simp_all
  obtain ⟨rfl, rfl⟩ := trodVars_none hV
  obtain ⟨p0_, Ao0, co0, Ab0, cb0, rfl, hp0⟩ := open_pk (hval 0 33 v0 rfl rfl) h0
  obtain ⟨A1, l1, c1, rfl, hc1, hm1, hn1, hr1⟩ := open_bytes Try.underlying23 Try.underlying5 Try.cells5 (hval 1 23 v1 rfl rfl) h1
  obtain ⟨A2, l2, c2, rfl, hc2, hm2, hn2, hr2⟩ := open_bytes Try.underlying23 Try.underlying5 Try.cells5 (hval 2 23 v2 rfl rfl) h2
  refine (reasmWhole p0_ Ao0 co0 Ab0 cb0 A1 c1 l1 A2 c2 l2 W hp0 hr1.bs hc1 hm1 hr2.bs hc2 hm2).mono fun e W' ⟨he, hg⟩ => ?_
  subst he
  exact ⟨_, rfl, law_end Try.laidOut (by kernel_rfl) rfl (by kernel_rfl) Try.underlying4 ⟨rfl, rfl, rfl⟩ hW' hg⟩
theorem over : Rows.reasmWholeRow.holds Try.pinned (OpenSpec.ofChange Rows.reasmWholeSpec) :=
  OpenClaim.holds_of_wide 4 Try.f4 rfl rfl rfl rfl rfl rfl rfl ⟨rfl, rfl, rfl, rfl, rfl⟩ rfl rfl rfl rfl rfl (by kernel_rfl) Try.func4 (by kernel_rfl)
    (of_decide_eq_true (by kernel_rfl)) (by unfold Func.isWrapper; first | (rw [if_pos (by decide +kernel)]; kernel_rfl) | (rw [if_neg (by decide +kernel)]; exact ⟨rfl, rfl⟩))
    (fun os started H enc _ => lifted os started H enc)
/-- ████ THE STATEMENT ████ -/
theorem proved : Rows.ReasmWholeSaid :=
  over
end reasmWhole

end Go.Proofs.Ythejakbjekjhjaa
