/- Lemmas, several texts in one. -/
import Derived.Test.YtmblkgnjcmneeaaQ04
import Derived.Lib.SliceRun
import Derived.Test.YtmblkgnjcmneeaaQ01
import Derived.Test.YtmblkgnjcmneeaaQ17
/- Contracts of the document's own answers for package ip: what may be put, the head, the bytes. -/
namespace Go.Proofs.Ytmblkgnjcmneeaa
open Go.ChangeShapes Go.WideShapes Go.ChangeAt Go.RowKit
set_option linter.unusedVariables false

/-- an array of ints by value: its element. -/
theorem run_index_int (t e : TypeId) (n : Nat) (k : IntKind) (i : TypeInfo) (cs : Array Value) (j : Nat) (v : Value) (h : Try.prog.underlying t = some (.array n e)) (he : Try.prog.underlying e = some (.int k)) (hi : Try.prog.info? e = some i) (hs : Try.prog.cellsOf e = 1) (hj : j < n) (hv : cs[j]? = some v) (w : World) :
    (Instr.index t (.agg cs) (.int .i64 (j : Int))).run Try.prog w = .ok v w := by
  simp [Instr.index, run_underlying h, asIntOf, hj, go_sem, run_sizeOf w hi, hs, part, isAgg, run_underlying he, hv]

theorem arr4 (a b c d : Value) (w : World) : (Instr.index 74 (.agg #[a, b, c, d]) (.int .i64 0)).run Try.prog w = .ok a w ∧ (Instr.index 74 (.agg #[a, b, c, d]) (.int .i64 1)).run Try.prog w = .ok b w ∧ (Instr.index 74 (.agg #[a, b, c, d]) (.int .i64 2)).run Try.prog w = .ok c w ∧ (Instr.index 74 (.agg #[a, b, c, d]) (.int .i64 3)).run Try.prog w = .ok d w := by
  obtain ⟨i0, hi, hz0, hz1, hz2⟩ := info_parts info_int
  exact ⟨run_index_int _ _ 4 .i64 i0 _ 0 _ (by kernel_rfl) Try.underlying3 hi (by kernel_rfl) (by omega) rfl w, run_index_int _ _ 4 .i64 i0 _ 1 _ (by kernel_rfl) Try.underlying3 hi (by kernel_rfl) (by omega) rfl w, run_index_int _ _ 4 .i64 i0 _ 2 _ (by kernel_rfl) Try.underlying3 hi (by kernel_rfl) (by omega) rfl w, run_index_int _ _ 4 .i64 i0 _ 3 _ (by kernel_rfl) Try.underlying3 hi (by kernel_rfl) (by omega) rfl w⟩

set_option maxRecDepth 100000 in
set_option maxHeartbeats 4000000 in
theorem rmay0 (p : Pk) (Ao : Option Addr) (co : Nat) (Ab : Option Addr) (cb : Nat) (w : World) :
    Calls Try.prog 21 #[pkV p Ao co Ab cb] w fun e w' => e = .returned (.bool (mayB p)) ∧ Below w.heap.size w w' := by
  by_cases hM : mayB p = true
  · have HM := Go.Lib.hid hM
    have hF : fitsB p = true := by have := (mayB_iff p).1 hM; rw [fitsB_iff]; exact ⟨this.fit, this.mf⟩
    obtain ⟨t0, t1, l0, l1, r0, r1, d0, d1, f0, f1, f8, p40, p4, fit, mf⟩ := (mayB_iff p).1 hM
    have hb3 : p.body.length ≤ 65535 := by omega
    have hm4 : ((p.opts.length : Int) % 4 == 0) = true := by rw [beq_iff_eq]; omega
    have hm8 : (p.off % 8 == 0) = true := by rw [beq_iff_eq]; exact f8
    clear hM mf
    have ix := fun W => arr4 (.int .i64 p.tos) (.int .i64 p.ttl) (.int .i64 p.proto) (.int .i64 p.id) W
    have ix0 := fun W => (ix W).1
    have ix1 := fun W => (ix W).2.1
    have ix2 := fun W => (ix W).2.2.1
    have ix3 := fun W => (ix W).2.2.2
    clear ix
    go_enter Try.func21, Try.ntmps21
    go_wp2
    refine wp_loop_rounds 5 ?_
    rw [rounds_succ]
    go_wp2
    rw [rounds_succ]
    go_wp2
    rw [rounds_succ]
    go_wp2
    rw [rounds_succ]
    go_wp2
    rw [rounds_succ]
    go_wp2_with (go_at_call 41; refine (rfits p Ao co Ab cb _ (by omega) (by omega) f0 f1).mono ?_; rintro e w1 ⟨rfl, hb1⟩; dsimp only)
    go_ret
    exact ⟨ret_bool (by rw [HM.out]), ((Below.refl _ _).alloc (Nat.le_refl _) _).trans (hb1.mono (by simp))⟩
  · have HM : Hid (mayB p = false) := Go.Lib.hid (by simpa using hM)
    have ix := fun W => arr4 (.int .i64 p.tos) (.int .i64 p.ttl) (.int .i64 p.proto) (.int .i64 p.id) W
    have ix0 := fun W => (ix W).1
    have ix1 := fun W => (ix W).2.1
    have ix2 := fun W => (ix W).2.2.1
    have ix3 := fun W => (ix W).2.2.2
    clear ix hM
    by_cases hG : (0 ≤ p.tos ∧ p.tos ≤ 255) ∧ (0 ≤ p.ttl ∧ p.ttl ≤ 255) ∧ (0 ≤ p.proto ∧ p.proto ≤ 255) ∧ (0 ≤ p.id ∧ p.id ≤ 65535)
    · obtain ⟨⟨t0, t1⟩, ⟨l0, l1⟩, ⟨r0, r1⟩, d0, d1⟩ := hG
      by_cases hO : 0 ≤ p.off ∧ p.off ≤ 65528
      · obtain ⟨f0, f1⟩ := hO
        by_cases hL : p.body.length ≤ 65535
        · by_cases h8 : p.off % 8 = 0
          · have t8 : (p.off % 8 == 0) = true := by simpa using h8
            by_cases h40 : p.opts.length ≤ 40
            · by_cases h4 : p.opts.length % 4 = 0
              · have t4 : ((p.opts.length : Int) % 4 == 0) = true := by rw [beq_iff_eq]; omega
                have HF : Hid (fitsB p = false) := Go.Lib.hid (by
                  have := HM.out; unfold mayB upB at this; simpa [t0, t1, l0, l1, r0, r1, d0, d1, f0, f1, h8, h40, h4] using this)
                clear h8 h4
                go_enter Try.func21, Try.ntmps21
                go_wp2
                refine wp_loop_rounds 5 ?_
                rw [rounds_succ]
                go_wp2
                rw [rounds_succ]
                go_wp2
                rw [rounds_succ]
                go_wp2
                rw [rounds_succ]
                go_wp2
                rw [rounds_succ]
                go_wp2_with (go_at_call 41; refine (rfits p Ao co Ab cb _ (by omega) (by omega) f0 f1).mono ?_; rintro e w1 ⟨rfl, hb1⟩; dsimp only)
                go_ret
                exact ⟨ret_bool (by rw [HM.out, HF.out]), ((Below.refl _ _).alloc (Nat.le_refl _) _).trans (hb1.mono (by simp))⟩
              · have t4 : ((p.opts.length : Int) % 4 == 0) = false := by rw [beq_eq_false_iff_ne]; omega
                go_enter Try.func21, Try.ntmps21
                go_wp2
                refine wp_loop_rounds 5 ?_
                rw [rounds_succ]
                go_wp2
                rw [rounds_succ]
                go_wp2
                rw [rounds_succ]
                go_wp2
                rw [rounds_succ]
                go_wp2
                rw [rounds_succ]
                go_wp2
                all_goals
                  go_ret
                  exact ⟨ret_bool HM.out.symm, (Below.refl _ _).alloc (Nat.le_refl _) _⟩
            · go_enter Try.func21, Try.ntmps21
              go_wp2
              refine wp_loop_rounds 5 ?_
              rw [rounds_succ]
              go_wp2
              rw [rounds_succ]
              go_wp2
              rw [rounds_succ]
              go_wp2
              rw [rounds_succ]
              go_wp2
              rw [rounds_succ]
              go_wp2
              all_goals
                go_ret
                exact ⟨ret_bool HM.out.symm, (Below.refl _ _).alloc (Nat.le_refl _) _⟩
          · have t8 : (p.off % 8 == 0) = false := by simpa using h8
            go_enter Try.func21, Try.ntmps21
            go_wp2
            refine wp_loop_rounds 5 ?_
            rw [rounds_succ]
            go_wp2
            rw [rounds_succ]
            go_wp2
            rw [rounds_succ]
            go_wp2
            rw [rounds_succ]
            go_wp2
            rw [rounds_succ]
            go_wp2
            all_goals
              go_ret
              exact ⟨ret_bool HM.out.symm, (Below.refl _ _).alloc (Nat.le_refl _) _⟩
        · by_cases h8 : p.off % 8 = 0
          · have t8 : (p.off % 8 == 0) = true := by simpa using h8
            go_enter Try.func21, Try.ntmps21
            go_wp2
            refine wp_loop_rounds 5 ?_
            rw [rounds_succ]
            go_wp2
            rw [rounds_succ]
            go_wp2
            rw [rounds_succ]
            go_wp2
            rw [rounds_succ]
            go_wp2
            rw [rounds_succ]
            go_wp2
            all_goals
              go_ret
              exact ⟨ret_bool HM.out.symm, (Below.refl _ _).alloc (Nat.le_refl _) _⟩
          · have t8 : (p.off % 8 == 0) = false := by simpa using h8
            go_enter Try.func21, Try.ntmps21
            go_wp2
            refine wp_loop_rounds 5 ?_
            rw [rounds_succ]
            go_wp2
            rw [rounds_succ]
            go_wp2
            rw [rounds_succ]
            go_wp2
            rw [rounds_succ]
            go_wp2
            rw [rounds_succ]
            go_wp2
            all_goals
              go_ret
              exact ⟨ret_bool HM.out.symm, (Below.refl _ _).alloc (Nat.le_refl _) _⟩
      · by_cases hO1 : 0 ≤ p.off
        · go_enter Try.func21, Try.ntmps21
          go_wp2
          refine wp_loop_rounds 5 ?_
          rw [rounds_succ]
          go_wp2
          rw [rounds_succ]
          go_wp2
          rw [rounds_succ]
          go_wp2
          rw [rounds_succ]
          go_wp2
          rw [rounds_succ]
          go_wp2
          all_goals
            go_ret
            exact ⟨ret_bool HM.out.symm, (Below.refl _ _).alloc (Nat.le_refl _) _⟩
        · go_enter Try.func21, Try.ntmps21
          go_wp2
          refine wp_loop_rounds 5 ?_
          rw [rounds_succ]
          go_wp2
          rw [rounds_succ]
          go_wp2
          rw [rounds_succ]
          go_wp2
          rw [rounds_succ]
          go_wp2
          rw [rounds_succ]
          go_wp2
          all_goals
            go_ret
            exact ⟨ret_bool HM.out.symm, (Below.refl _ _).alloc (Nat.le_refl _) _⟩
    · go_enter Try.func21, Try.ntmps21
      go_wp2
      refine wp_loop_rounds 5 ?_
      rw [rounds_succ]
      go_wp2
      all_goals first | (go_ret; exact ⟨ret_bool HM.out.symm, (Below.refl _ _).alloc (Nat.le_refl _) _⟩) | rw [rounds_succ]
      all_goals go_wp2
      all_goals first | (go_ret; exact ⟨ret_bool HM.out.symm, (Below.refl _ _).alloc (Nat.le_refl _) _⟩) | rw [rounds_succ]
      all_goals go_wp2
      all_goals first | (go_ret; exact ⟨ret_bool HM.out.symm, (Below.refl _ _).alloc (Nat.le_refl _) _⟩) | rw [rounds_succ]
      all_goals go_wp2
      all_goals first | (go_ret; exact ⟨ret_bool HM.out.symm, (Below.refl _ _).alloc (Nat.le_refl _) _⟩) | (exfalso; omega)
theorem rmay (p : Pk) (Ao : Option Addr) (co : Nat) (Ab : Option Addr) (cb : Nat) (w : World) (ho : p.opts.length ≤ 16777216) (hb : p.body.length ≤ 16777216) :
    Calls Try.prog 21 #[pkV p Ao co Ab cb] w fun e w' => e = .returned (.bool (mayB p)) ∧ Below w.heap.size w w' := rmay0 p Ao co Ab cb w
end Go.Proofs.Ytmblkgnjcmneeaa
