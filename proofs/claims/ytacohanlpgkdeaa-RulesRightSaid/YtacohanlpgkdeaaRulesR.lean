/- The document's own answers for package rules: Fits. -/
import Derived.Test.YtacohanlpgkdeaaRulesV
import Derived.Test.YtacohanlpgkdeaaRouteIn
import Derived.Deep.RegionHeld3
import Derived.Deep.DeepCutAuto
namespace Go.Proofs.Ytacohanlpgkdeaa
open Go.ChangeShapes Go.WideShapes Go.ChangeAt Go.RowKit
set_option linter.unusedVariables false
set_option linter.unusedSimpArgs false

set_option maxRecDepth 100000 in
set_option maxHeartbeats 4000000 in
theorem rfits14 (r : Ru) (hr : RngRu r) (f t : Int) (tp : Tp) (ht : RngTp tp) (w : World) (q : Bool) (hq : fitsU r f t tp = q) :
    Calls Try.prog 13 #[ruV r, .int .i64 f, .int .i64 t, tpV tp] w fun e w' => e = .returned (.bool q) ∧ Below w.heap.size w w' := by
  have y0 : Below w.heap.size w ((w.alloc (oRu r)).alloc (oTp tp)) := below_alloc (below_alloc (Below.refl _ _) (Nat.le_refl _) _) (by simp) _
  have h1 := (Bxo.made w 25 (ruL r)).alloc (oTp tp)
  have h2 : Bxo ((w.alloc (oRu r)).alloc (oTp tp)) (w.heap.size + 1) 27 (tpL tp) := by
    have := Bxo.made (w.alloc (oRu r)) 27 (tpL tp)
    simpa using this
  obtain ⟨z, hz⟩ : ∃ z, zoneU r f t = z := ⟨_, rfl⟩
  obtain ⟨p, hp⟩ : ∃ p, portU r tp = p := ⟨_, rfl⟩
  obtain ⟨i, hi⟩ : ∃ i, inN tp.src r.src r.sbits = i := ⟨_, rfl⟩
  obtain ⟨j, hj⟩ : ∃ j, inN tp.dst r.dst r.dbits = j := ⟨_, rfl⟩
  have HQ : Hid (q = (z && (p && (i && j)))) := Go.Lib.hid (by rw [← hq]; unfold fitsU; rw [hz, hp, hi, hj])
  have HZ := Go.Lib.hid hz
  have HP := Go.Lib.hid hp
  have HI := Go.Lib.hid hi
  have HJ := Go.Lib.hid hj
  have HR := Go.Lib.hid hr
  have HT := Go.Lib.hid ht
  obtain ⟨fr, to_, proto, src, dst, sbits, dbits, lo, hi_, act⟩ := r
  obtain ⟨tproto, tsrc, tsport, tdst, tdport⟩ := tp
  clear hq hz hp hi hj hr ht
  go_enter Try.func13, Try.ntmps13
  go_upto_region 1 with fail
  generalize ((w.alloc (oRu ⟨fr, to_, proto, src, dst, sbits, dbits, lo, hi_, act⟩)).alloc (oTp ⟨tproto, tsrc, tsport, tdst, tdport⟩)) = W at *
  have c0 := h1.cell 0 rfl
  have c1 := h1.cell 1 rfl
  have c2 := h1.cell 2 rfl
  have c3 := h1.cell 3 rfl
  have c4 := h1.cell 4 rfl
  have c5 := h1.cell 5 rfl
  have c6 := h1.cell 6 rfl
  have c7 := h1.cell 7 rfl
  have c8 := h1.cell 8 rfl
  have d0 := h2.cell 0 rfl
  have d1 := h2.cell 1 rfl
  have d3 := h2.cell 3 rfl
  have d4 := h2.cell 4 rfl
  have H1 := Go.Lib.hid h1
  have H2 := Go.Lib.hid h2
  dsimp only at c0 c1 c2 c3 c4 c5 c6 c7 c8 d0 d1 d3 d4
  clear h1 h2
  go_cut [28] (fun s wx => s = .bool (!z) ∧ W = wx)
  case first =>
    have HZ' : Hid (((fr == -1 || fr == f) && (to_ == -1 || to_ == t)) = z) := HZ
    by_cases a1 : fr = -1
    · have s1 : (fr != -1) = false := by simp [a1]
      have k1 : (fr == -1) = true := by simp [a1]
      have HZ2 := Go.Lib.hid HZ'.out
      rw [k1, Bool.true_or, Bool.true_and] at HZ2
      clear a1 HZ'
      by_cases a2 : to_ = -1
      · have s2 : (to_ != -1) = false := by simp [a2]
        have Hz : Hid (z = true) := Go.Lib.hid (by rw [← HZ2.out]; simp [a2])
        clear a2
        go_wp2_with fail
        go_meet
        exact ⟨by rw [Hz.out]; rfl, rfl⟩
      · have s2 : (to_ != -1) = true := by simp [a2]
        by_cases a3 : to_ = t
        · have s3 : (to_ != t) = false := by simp [a3]
          have Hz : Hid (z = true) := Go.Lib.hid (by rw [← HZ2.out]; simp [a3])
          clear a2 a3
          go_wp2_with fail
          go_meet
          exact ⟨by rw [Hz.out]; rfl, rfl⟩
        · have s3 : (to_ != t) = true := by simp [a3]
          have Hz : Hid (z = false) := Go.Lib.hid (by rw [← HZ2.out]; simp [a2, a3])
          clear a2 a3
          go_wp2_with fail
          go_meet
          exact ⟨by rw [Hz.out]; rfl, rfl⟩
    · have s1 : (fr != -1) = true := by simp [a1]
      by_cases a4 : fr = f
      · have s4 : (fr != f) = false := by simp [a4]
        have HZ2 : Hid ((to_ == -1 || to_ == t) = z) := Go.Lib.hid (by rw [← HZ'.out]; simp [a4])
        clear a1 a4 HZ'
        by_cases a2 : to_ = -1
        · have s2 : (to_ != -1) = false := by simp [a2]
          have Hz : Hid (z = true) := Go.Lib.hid (by rw [← HZ2.out]; simp [a2])
          clear a2
          go_wp2_with fail
          go_meet
          exact ⟨by rw [Hz.out]; rfl, rfl⟩
        · have s2 : (to_ != -1) = true := by simp [a2]
          by_cases a3 : to_ = t
          · have s3 : (to_ != t) = false := by simp [a3]
            have Hz : Hid (z = true) := Go.Lib.hid (by rw [← HZ2.out]; simp [a3])
            clear a2 a3
            go_wp2_with fail
            go_meet
            exact ⟨by rw [Hz.out]; rfl, rfl⟩
          · have s3 : (to_ != t) = true := by simp [a3]
            have Hz : Hid (z = false) := Go.Lib.hid (by rw [← HZ2.out]; simp [a2, a3])
            clear a2 a3
            go_wp2_with fail
            go_meet
            exact ⟨by rw [Hz.out]; rfl, rfl⟩
      · have s4 : (fr != f) = true := by simp [a4]
        have Hz : Hid (z = false) := Go.Lib.hid (by rw [← HZ'.out]; simp [a1, a4])
        clear a1 a4
        go_wp2_with fail
        go_meet
        exact ⟨by rw [Hz.out]; rfl, rfl⟩
  case rest =>
    obtain ⟨rfl, rfl⟩ := hcut
    cases z
    · go_wp2_with fail
      go_ret
      exact ⟨by rw [HQ.out]; rfl, y0⟩
    go_upto_region 3 with fail
    go_cut [52] (fun s wx => s = .bool (!p) ∧ W = wx)
    case first =>
      have HP' : Hid (((proto == 0 || proto == tproto) && btw lo tdport hi_) = p) := HP
      have last : ∀ (hh : Hid (btw lo tdport hi_ = p)), True := fun _ => trivial
      by_cases b1 : proto = 0
      · have s1 : (proto != 0) = false := by simp [b1]
        have HB : Hid (btw lo tdport hi_ = p) := Go.Lib.hid (by rw [← HP'.out]; simp [b1])
        clear b1 last
        by_cases b3 : tdport < lo
        · have Hp : Hid (p = false) := Go.Lib.hid (by rw [← HB.out]; unfold btw; rw [decide_eq_false (by omega), Bool.false_and])
          go_wp2_with fail
          go_meet
          exact ⟨by rw [Hp.out]; rfl, rfl⟩
        · by_cases b4 : hi_ < tdport
          · have Hp : Hid (p = false) := Go.Lib.hid (by rw [← HB.out]; unfold btw; rw [decide_eq_false (show ¬ tdport ≤ hi_ by omega), Bool.and_false])
            go_wp2_with fail
            go_meet
            exact ⟨by rw [Hp.out]; rfl, rfl⟩
          · have Hp : Hid (p = true) := Go.Lib.hid (by rw [← HB.out]; exact (btw_iff _ _ _).2 (by omega))
            go_wp2_with fail
            go_meet
            exact ⟨by rw [Hp.out]; rfl, rfl⟩
      · have s1 : (proto != 0) = true := by simp [b1]
        by_cases b2 : proto = tproto
        · have s2 : (proto != tproto) = false := by simp [b2]
          have HB : Hid (btw lo tdport hi_ = p) := Go.Lib.hid (by rw [← HP'.out]; simp [b2])
          clear b1 b2 last
          by_cases b3 : tdport < lo
          · have Hp : Hid (p = false) := Go.Lib.hid (by rw [← HB.out]; unfold btw; rw [decide_eq_false (by omega), Bool.false_and])
            go_wp2_with fail
            go_meet
            exact ⟨by rw [Hp.out]; rfl, rfl⟩
          · by_cases b4 : hi_ < tdport
            · have Hp : Hid (p = false) := Go.Lib.hid (by rw [← HB.out]; unfold btw; rw [decide_eq_false (show ¬ tdport ≤ hi_ by omega), Bool.and_false])
              go_wp2_with fail
              go_meet
              exact ⟨by rw [Hp.out]; rfl, rfl⟩
            · have Hp : Hid (p = true) := Go.Lib.hid (by rw [← HB.out]; exact (btw_iff _ _ _).2 (by omega))
              go_wp2_with fail
              go_meet
              exact ⟨by rw [Hp.out]; rfl, rfl⟩
        · have s2 : (proto != tproto) = true := by simp [b2]
          have Hp : Hid (p = false) := Go.Lib.hid (by rw [← HP'.out]; simp [b1, b2])
          clear b1 b2 last
          go_wp2_with fail
          go_meet
          exact ⟨by rw [Hp.out]; rfl, rfl⟩
    case rest =>
      obtain ⟨rfl, rfl⟩ := hcut
      cases p
      · go_wp2_with fail
        go_ret
        exact ⟨by rw [HQ.out]; rfl, y0⟩
      cases i
      · go_wp2_with (go_at_call 19; refine (rin13 tsrc src sbits ⟨HT.out.s0, HT.out.s1⟩ HR.out.src W _ HI.out).mono ?_; rintro e w3 ⟨rfl, y3⟩; have x3 := y0.trans (y3.mono y0.size); dsimp only)
        go_ret
        exact ⟨by rw [HQ.out]; rfl, x3⟩
      · go_wp2_with (first
          | (go_at_call_of 19 ([Value.int IntKind.u32 src, Value.int IntKind.i64 sbits]); refine (rin13 tsrc src sbits ⟨HT.out.s0, HT.out.s1⟩ HR.out.src W _ HI.out).mono ?_; rintro e w3 ⟨rfl, y3⟩; have x3 := y0.trans (y3.mono y0.size); have h1 := H1.out.keep y3 H1.out.lt; have h2 := H2.out.keep y3 H2.out.lt; have c4 := h1.cell 4 rfl; have c6 := h1.cell 6 rfl; have d3 := h2.cell 3 rfl; clear h1 h2; dsimp only at c4 c6 d3; dsimp only)
          | (go_at_call 19; refine (rin13 tdst dst dbits ⟨HT.out.d0, HT.out.d1⟩ HR.out.dst w3 _ HJ.out).mono ?_; rintro e w4 ⟨rfl, y4⟩; have x4 := x3.trans (y4.mono x3.size); dsimp only))
        go_ret
        exact ⟨by rw [HQ.out]; rfl, x4⟩
end Go.Proofs.Ytacohanlpgkdeaa
