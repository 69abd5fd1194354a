/- Contracts of the document's own answers for package ip: what may be put, the head, the bytes. -/
import Derived.Test.YtdbidhabpomlgaaIpA3
import Derived.Test.YtdbidhabpomlgaaCsumB
import Derived.Lib.SliceRun
namespace Go.Proofs.Ytdbidhabpomlgaa
open Go.ChangeShapes Go.WideShapes Go.ChangeAt Go.RowKit
set_option linter.unusedVariables false

theorem dd (w : World) (m n : Nat) : (w.drewN m).drewN n = w.drewN (m + n) := by simp [World.drewN, Nat.add_assoc]
theorem take_eq_succ (a b : List UInt8) (k : Nat) (ha : k < a.length) (hb : k < b.length) (h : a.take k = b.take k) (he : a[k] = b[k]) : a.take (k + 1) = b.take (k + 1) := by
  rw [List.take_succ_eq_append_getElem ha, List.take_succ_eq_append_getElem hb, h, he]
theorem g8_eq (a b : List UInt8) (k : Nat) (ha : k < a.length) (hb : k < b.length) : (g8 a k != g8 b k) = !(a[k] == b[k]) := by
  rw [g8_at a k ha, g8_at b k hb]
  by_cases h : a[k] = b[k]
  · simp [h]
  · have : ¬ ((a[k].toNat : Int) = (b[k].toNat : Int)) := fun e => h (UInt8.toNat_inj.1 (by omega))
    rw [Bool.eq_iff_iff]; simp [h, this]

set_option maxHeartbeats 1000000 in
theorem rsame (A : Option Addr) (n c : Nat) (a : List UInt8) (A' : Option Addr) (n' c' : Nat) (b : List UInt8) (B B' : Nat) (w : World) (hn : a.length = n) (hn' : b.length = n') (h : Bs w B A a) (h' : Bs w B' A' b) (hl : n ≤ 16777216) (hl' : n' ≤ 16777216) :
    Calls Try.prog 12 #[.slice A n c, .slice A' n' c'] w fun e w' => e = .returned (.bool (a == b)) ∧ ∃ m, w' = w.drewN m := by
  by_cases hne : n = n'
  · subst hne
    have HA := Go.Lib.hid hn
    have HB := Go.Lib.hid hn'
    have t1 : ((n : Int) != (n : Int)) = false := by simp
    have HX := Go.Lib.hid h
    have HX' := Go.Lib.hid h'
    clear hn hn' h h'
    go_enter Try.func12, Try.ntmps12
    go_wp2
    go_loopw [5] (fun i wr => ∃ k : Nat, k ≤ n ∧ i = .int .i64 k ∧ Hid (a.take k = b.take k) ∧ ∃ m, wr = w.drewN m) (fun i _ => n - (intOf i).toNat)
    case atStart => exact ⟨0, Nat.zero_le _, rfl, Go.Lib.hid rfl, 0, rfl⟩
    case round =>
      obtain ⟨k, hk, rfl, hT, m, rfl⟩ := hrel
      by_cases hlt : k < n
      · obtain ⟨ad, rfl, _, hc⟩ := g8_cell HX.out (k := k) (by rw [HA.out]; exact hlt)
        obtain ⟨ad', rfl, _, hc'⟩ := g8_cell HX'.out (k := k) (by rw [HB.out]; exact hlt)
        have HE := Go.Lib.hid (g8_eq a b k (by rw [HA.out]; exact hlt) (by rw [HB.out]; exact hlt))
        have i0 : (k : Int) < (n : Int) := by omega
        by_cases he : a[k]'(by rw [HA.out]; exact hlt) = b[k]'(by rw [HB.out]; exact hlt)
        · have HS := Go.Lib.hid (take_eq_succ a b k _ _ hT.out he)
          have t2 : (g8 a k != g8 b k) = false := by rw [HE.out]; simp [he]
          clear he HE
          generalize g8 a k = x at *
          generalize g8 b k = y at *
          go_wp2
          go_quiet (fail)
          go_wp2
          go_roundw
          case rel => exact ⟨k + 1, by omega, by go_num, HS, _, rfl⟩
          case measure => simp [intOf]; omega
        · have t2 : (g8 a k != g8 b k) = true := by rw [HE.out]; simp [he]
          have HF : Hid ((a == b) = false) := Go.Lib.hid (by rw [beq_eq_false_iff_ne]; intro e; subst e; exact he rfl)
          clear he HE
          generalize g8 a k = x at *
          generalize g8 b k = y at *
          go_wp2
          go_quiet (fail)
          go_wp2
          go_ret
          exact ⟨ret_bool HF.out.symm, _, dd _ _ _⟩
      · have HF : Hid ((a == b) = true) := Go.Lib.hid (by
          have e := hT.out
          rw [List.take_of_length_le (by rw [HA.out]; omega), List.take_of_length_le (by rw [HB.out]; omega)] at e
          simpa using e)
        go_wp2
        go_ret
        exact ⟨ret_bool HF.out.symm, _, rfl⟩
  · have t1 : ((n : Int) != (n' : Int)) = true := by rw [bne_iff_ne]; omega
    have HF : Hid ((a == b) = false) := Go.Lib.hid (by rw [beq_eq_false_iff_ne]; intro e; subst e; exact hne (by omega))
    clear hn hn' h h'
    go_enter Try.func12, Try.ntmps12
    go_wp2
    go_ret
    exact ⟨ret_bool HF.out.symm, 0, rfl⟩

set_option maxHeartbeats 400000 in
theorem rshort (p : Pk) (Ao : Option Addr) (co : Nat) (Ab : Option Addr) (cb : Nat) (w : World) :
    Calls Try.prog 9 #[pkV p Ao co Ab cb] w fun e w' => e = .returned (.bool (decide (p.opts.length ≤ 100) && decide (p.body.length ≤ 3000))) ∧ Below w.heap.size w w' := by
  by_cases h1 : p.opts.length ≤ 100
  · by_cases h2 : p.body.length ≤ 3000
    · go_enter Try.func9, Try.ntmps9
      go_wp2
      go_ret
      exact ⟨ret_bool (by first | (simp [*]; done) | (simp; omega) | (rw [Bool.eq_iff_iff]; simp [*]; done) | (rw [Bool.eq_iff_iff]; simp [*]; omega) | (rw [Bool.eq_iff_iff]; simp; omega)), (Below.refl _ _).alloc (Nat.le_refl _) _⟩
    · go_enter Try.func9, Try.ntmps9
      go_wp2
      go_ret
      exact ⟨ret_bool (by first | (simp [*]; done) | (simp; omega) | (rw [Bool.eq_iff_iff]; simp [*]; done) | (rw [Bool.eq_iff_iff]; simp [*]; omega) | (rw [Bool.eq_iff_iff]; simp; omega)), (Below.refl _ _).alloc (Nat.le_refl _) _⟩
  · go_enter Try.func9, Try.ntmps9
    go_wp2
    go_ret
    exact ⟨ret_bool (by first | (simp [*]; done) | (simp; omega) | (rw [Bool.eq_iff_iff]; simp [*]; done) | (rw [Bool.eq_iff_iff]; simp [*]; omega) | (rw [Bool.eq_iff_iff]; simp; omega)), (Below.refl _ _).alloc (Nat.le_refl _) _⟩

set_option maxHeartbeats 1000000 in
theorem rfits (p : Pk) (Ao : Option Addr) (co : Nat) (Ab : Option Addr) (cb : Nat) (w : World) (ho : p.opts.length ≤ 16777216) (hb : p.body.length ≤ 16777216) (f0 : 0 ≤ p.off) (f1 : p.off ≤ 65528) :
    Calls Try.prog 31 #[pkV p Ao co Ab cb] w fun e w' => e = .returned (.bool (fitsB p)) ∧ Below w.heap.size w w' := by
  unfold fitsB
  have t1 : ((p.body.length : Int) == 0) = decide (p.body.length = 0) := by rw [Bool.eq_iff_iff]; simp
  go_enter Try.func31, Try.ntmps31
  go_wp2
  all_goals (go_ret; refine ⟨ret_bool ?_, (Below.refl _ _).alloc (Nat.le_refl _) _⟩)
  all_goals first | (simp [*]; done) | (simp; omega) | (rw [Bool.eq_iff_iff]; simp [*]; done) | (rw [Bool.eq_iff_iff]; simp [*]; omega) | (rw [Bool.eq_iff_iff]; simp; omega) | (have hx : 0 < p.body.length := List.length_pos_iff.2 (by assumption); have hy : p.body.length % 8 = 0 := (by omega); simp [*]; done)

/-- an array of ints by value: its element. -/
theorem run_index_int (t e : TypeId) (n : Nat) (k : IntKind) (i : TypeInfo) (cs : Array Value) (j : Nat) (v : Value) (h : Try.prog.underlying t = some (.array n e)) (he : Try.prog.underlying e = some (.int k)) (hi : Try.prog.info? e = some i) (hs : Try.prog.cellsOf e = 1) (hj : j < n) (hv : cs[j]? = some v) (w : World) :
    (Instr.index t (.agg cs) (.int .i64 (j : Int))).run Try.prog w = .ok v w := by
  simp [Instr.index, run_underlying h, asIntOf, hj, go_sem, run_sizeOf w hi, hs, part, isAgg, run_underlying he, hv]

theorem info_int : (Try.prog.info? 3).map (fun i => (i.zero, i.size, i.bytes)) = some (some (.int .i64 0), 1, 8) := by kernel_rfl
theorem arr4 (a b c d : Value) (w : World) : (Instr.index 58 (.agg #[a, b, c, d]) (.int .i64 0)).run Try.prog w = .ok a w ∧ (Instr.index 58 (.agg #[a, b, c, d]) (.int .i64 1)).run Try.prog w = .ok b w ∧ (Instr.index 58 (.agg #[a, b, c, d]) (.int .i64 2)).run Try.prog w = .ok c w ∧ (Instr.index 58 (.agg #[a, b, c, d]) (.int .i64 3)).run Try.prog w = .ok d w := by
  obtain ⟨i0, hi, hz0, hz1, hz2⟩ := info_parts info_int
  exact ⟨run_index_int _ _ 4 .i64 i0 _ 0 _ (by kernel_rfl) Try.underlying3 hi (by kernel_rfl) (by omega) rfl w, run_index_int _ _ 4 .i64 i0 _ 1 _ (by kernel_rfl) Try.underlying3 hi (by kernel_rfl) (by omega) rfl w, run_index_int _ _ 4 .i64 i0 _ 2 _ (by kernel_rfl) Try.underlying3 hi (by kernel_rfl) (by omega) rfl w, run_index_int _ _ 4 .i64 i0 _ 3 _ (by kernel_rfl) Try.underlying3 hi (by kernel_rfl) (by omega) rfl w⟩

set_option maxRecDepth 100000 in
set_option maxHeartbeats 4000000 in
theorem rmay (p : Pk) (Ao : Option Addr) (co : Nat) (Ab : Option Addr) (cb : Nat) (w : World) (ho : p.opts.length ≤ 16777216) (hb : p.body.length ≤ 16777216) :
    Calls Try.prog 21 #[pkV p Ao co Ab cb] w fun e w' => e = .returned (.bool (mayB p)) ∧ Below w.heap.size w w' := by
  by_cases hM : mayB p = true
  · have HM := Go.Lib.hid hM
    have hF : fitsB p = true := by have := (mayB_iff p).1 hM; rw [fitsB_iff]; exact ⟨this.fit, this.mf⟩
    obtain ⟨t0, t1, l0, l1, r0, r1, d0, d1, f0, f1, f8, p40, p4, fit, mf⟩ := (mayB_iff p).1 hM
    have hb3 : p.body.length ≤ 65535 := by omega
    have hm4 : ((p.opts.length : Int) % 4 == 0) = true := by rw [beq_iff_eq]; omega
    have hm8 : (p.off % 8 == 0) = true := by rw [beq_iff_eq]; exact f8
    clear hM mf
    have ix := fun W => arr4 (.int .i64 p.tos) (.int .i64 p.ttl) (.int .i64 p.proto) (.int .i64 p.id) W
    have ix0 := fun W => (ix W).1
    have ix1 := fun W => (ix W).2.1
    have ix2 := fun W => (ix W).2.2.1
    have ix3 := fun W => (ix W).2.2.2
    clear ix
    go_enter Try.func21, Try.ntmps21
    go_wp2
    refine wp_loop_rounds 5 ?_
    rw [rounds_succ]
    go_wp2
    rw [rounds_succ]
    go_wp2
    rw [rounds_succ]
    go_wp2
    rw [rounds_succ]
    go_wp2
    rw [rounds_succ]
    go_wp2_with (go_at_call 31; refine (rfits p Ao co Ab cb _ ho hb f0 f1).mono ?_; rintro e w1 ⟨rfl, hb1⟩; dsimp only)
    go_ret
    exact ⟨ret_bool (by rw [HM.out]), ((Below.refl _ _).alloc (Nat.le_refl _) _).trans (hb1.mono (by simp))⟩
  · have HM : Hid (mayB p = false) := Go.Lib.hid (by simpa using hM)
    have ix := fun W => arr4 (.int .i64 p.tos) (.int .i64 p.ttl) (.int .i64 p.proto) (.int .i64 p.id) W
    have ix0 := fun W => (ix W).1
    have ix1 := fun W => (ix W).2.1
    have ix2 := fun W => (ix W).2.2.1
    have ix3 := fun W => (ix W).2.2.2
    clear ix hM
    by_cases hG : (0 ≤ p.tos ∧ p.tos ≤ 255) ∧ (0 ≤ p.ttl ∧ p.ttl ≤ 255) ∧ (0 ≤ p.proto ∧ p.proto ≤ 255) ∧ (0 ≤ p.id ∧ p.id ≤ 65535)
    · obtain ⟨⟨t0, t1⟩, ⟨l0, l1⟩, ⟨r0, r1⟩, d0, d1⟩ := hG
      by_cases hO : 0 ≤ p.off ∧ p.off ≤ 65528
      · obtain ⟨f0, f1⟩ := hO
        by_cases hL : p.body.length ≤ 65535
        · by_cases h8 : p.off % 8 = 0
          · have t8 : (p.off % 8 == 0) = true := by simpa using h8
            by_cases h40 : p.opts.length ≤ 40
            · by_cases h4 : p.opts.length % 4 = 0
              · have t4 : ((p.opts.length : Int) % 4 == 0) = true := by rw [beq_iff_eq]; omega
                have HF : Hid (fitsB p = false) := Go.Lib.hid (by
                  have := HM.out; unfold mayB upB at this; simpa [t0, t1, l0, l1, r0, r1, d0, d1, f0, f1, h8, h40, h4] using this)
                clear h8 h4
                go_enter Try.func21, Try.ntmps21
                go_wp2
                refine wp_loop_rounds 5 ?_
                rw [rounds_succ]
                go_wp2
                rw [rounds_succ]
                go_wp2
                rw [rounds_succ]
                go_wp2
                rw [rounds_succ]
                go_wp2
                rw [rounds_succ]
                go_wp2_with (go_at_call 31; refine (rfits p Ao co Ab cb _ ho hb f0 f1).mono ?_; rintro e w1 ⟨rfl, hb1⟩; dsimp only)
                go_ret
                exact ⟨ret_bool (by rw [HM.out, HF.out]), ((Below.refl _ _).alloc (Nat.le_refl _) _).trans (hb1.mono (by simp))⟩
              · have t4 : ((p.opts.length : Int) % 4 == 0) = false := by rw [beq_eq_false_iff_ne]; omega
                go_enter Try.func21, Try.ntmps21
                go_wp2
                refine wp_loop_rounds 5 ?_
                rw [rounds_succ]
                go_wp2
                rw [rounds_succ]
                go_wp2
                rw [rounds_succ]
                go_wp2
                rw [rounds_succ]
                go_wp2
                rw [rounds_succ]
                go_wp2
                all_goals
                  go_ret
                  exact ⟨ret_bool HM.out.symm, (Below.refl _ _).alloc (Nat.le_refl _) _⟩
            · go_enter Try.func21, Try.ntmps21
              go_wp2
              refine wp_loop_rounds 5 ?_
              rw [rounds_succ]
              go_wp2
              rw [rounds_succ]
              go_wp2
              rw [rounds_succ]
              go_wp2
              rw [rounds_succ]
              go_wp2
              rw [rounds_succ]
              go_wp2
              all_goals
                go_ret
                exact ⟨ret_bool HM.out.symm, (Below.refl _ _).alloc (Nat.le_refl _) _⟩
          · have t8 : (p.off % 8 == 0) = false := by simpa using h8
            go_enter Try.func21, Try.ntmps21
            go_wp2
            refine wp_loop_rounds 5 ?_
            rw [rounds_succ]
            go_wp2
            rw [rounds_succ]
            go_wp2
            rw [rounds_succ]
            go_wp2
            rw [rounds_succ]
            go_wp2
            rw [rounds_succ]
            go_wp2
            all_goals
              go_ret
              exact ⟨ret_bool HM.out.symm, (Below.refl _ _).alloc (Nat.le_refl _) _⟩
        · by_cases h8 : p.off % 8 = 0
          · have t8 : (p.off % 8 == 0) = true := by simpa using h8
            go_enter Try.func21, Try.ntmps21
            go_wp2
            refine wp_loop_rounds 5 ?_
            rw [rounds_succ]
            go_wp2
            rw [rounds_succ]
            go_wp2
            rw [rounds_succ]
            go_wp2
            rw [rounds_succ]
            go_wp2
            rw [rounds_succ]
            go_wp2
            all_goals
              go_ret
              exact ⟨ret_bool HM.out.symm, (Below.refl _ _).alloc (Nat.le_refl _) _⟩
          · have t8 : (p.off % 8 == 0) = false := by simpa using h8
            go_enter Try.func21, Try.ntmps21
            go_wp2
            refine wp_loop_rounds 5 ?_
            rw [rounds_succ]
            go_wp2
            rw [rounds_succ]
            go_wp2
            rw [rounds_succ]
            go_wp2
            rw [rounds_succ]
            go_wp2
            rw [rounds_succ]
            go_wp2
            all_goals
              go_ret
              exact ⟨ret_bool HM.out.symm, (Below.refl _ _).alloc (Nat.le_refl _) _⟩
      · by_cases hO1 : 0 ≤ p.off
        · go_enter Try.func21, Try.ntmps21
          go_wp2
          refine wp_loop_rounds 5 ?_
          rw [rounds_succ]
          go_wp2
          rw [rounds_succ]
          go_wp2
          rw [rounds_succ]
          go_wp2
          rw [rounds_succ]
          go_wp2
          rw [rounds_succ]
          go_wp2
          all_goals
            go_ret
            exact ⟨ret_bool HM.out.symm, (Below.refl _ _).alloc (Nat.le_refl _) _⟩
        · go_enter Try.func21, Try.ntmps21
          go_wp2
          refine wp_loop_rounds 5 ?_
          rw [rounds_succ]
          go_wp2
          rw [rounds_succ]
          go_wp2
          rw [rounds_succ]
          go_wp2
          rw [rounds_succ]
          go_wp2
          rw [rounds_succ]
          go_wp2
          all_goals
            go_ret
            exact ⟨ret_bool HM.out.symm, (Below.refl _ _).alloc (Nat.le_refl _) _⟩
    · go_enter Try.func21, Try.ntmps21
      go_wp2
      refine wp_loop_rounds 5 ?_
      rw [rounds_succ]
      go_wp2
      all_goals first | (go_ret; exact ⟨ret_bool HM.out.symm, (Below.refl _ _).alloc (Nat.le_refl _) _⟩) | rw [rounds_succ]
      all_goals go_wp2
      all_goals first | (go_ret; exact ⟨ret_bool HM.out.symm, (Below.refl _ _).alloc (Nat.le_refl _) _⟩) | rw [rounds_succ]
      all_goals go_wp2
      all_goals first | (go_ret; exact ⟨ret_bool HM.out.symm, (Below.refl _ _).alloc (Nat.le_refl _) _⟩) | rw [rounds_succ]
      all_goals go_wp2
      all_goals first | (go_ret; exact ⟨ret_bool HM.out.symm, (Below.refl _ _).alloc (Nat.le_refl _) _⟩) | (exfalso; omega)
end Go.Proofs.Ytdbidhabpomlgaa
