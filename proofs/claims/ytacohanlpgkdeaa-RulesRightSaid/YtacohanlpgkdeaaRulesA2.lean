/- The landed rules: Fits, Right. -/
import Derived.Test.YtacohanlpgkdeaaRulesA1
import Derived.Test.YtacohanlpgkdeaaRulesC
namespace Go.Proofs.Ytacohanlpgkdeaa
open Go.ChangeShapes Go.WideShapes Go.ChangeAt Go.RowKit
set_option linter.unusedVariables false
set_option linter.unusedSimpArgs false

set_option maxRecDepth 100000 in
set_option maxHeartbeats 800000 in
theorem cfits14 : FitsC14 := by
  intro r hr f t tp ht w q hq
  have y0 : Below w.heap.size w ((w.alloc (oRu r)).alloc (oTp tp)) := below_alloc (below_alloc (Below.refl _ _) (Nat.le_refl _) _) (by simp) _
  have h1 := (Bxo.made w 25 (ruL r)).alloc (oTp tp)
  have h2 : Bxo ((w.alloc (oRu r)).alloc (oTp tp)) (w.heap.size + 1) 27 (tpL tp) := by
    have := Bxo.made (w.alloc (oRu r)) 27 (tpL tp)
    simpa using this
  obtain ⟨z, hz⟩ : ∃ z, zoneU r f t = z := ⟨_, rfl⟩
  obtain ⟨p, hp⟩ : ∃ p, (r.proto == 0 || r.proto == tp.proto) = p := ⟨_, rfl⟩
  obtain ⟨o, ho⟩ : ∃ p, btw r.lo tp.dport r.hi = p := ⟨_, rfl⟩
  obtain ⟨i, hi⟩ : ∃ i, inN tp.src r.src r.sbits = i := ⟨_, rfl⟩
  obtain ⟨j, hj⟩ : ∃ j, inN tp.dst r.dst r.dbits = j := ⟨_, rfl⟩
  have HQ : Hid (q = (z && (p && (i && (j && o))))) := Go.Lib.hid (by
    rw [← hq]; unfold fitsU portU; rw [hz, hp, hi, hj, ho]
    cases z <;> cases p <;> cases i <;> cases j <;> cases o <;> rfl)
  have HZ := Go.Lib.hid hz
  have HP := Go.Lib.hid hp
  have HO := Go.Lib.hid ho
  have HI := Go.Lib.hid hi
  have HJ := Go.Lib.hid hj
  have HR := Go.Lib.hid hr
  have HT := Go.Lib.hid ht
  obtain ⟨fr, to_, proto, src, dst, sbits, dbits, lo, hi_, act⟩ := r
  obtain ⟨tproto, tsrc, tsport, tdst, tdport⟩ := tp
  clear hq hz hp ho hi hj hr ht
  go_enter Try.func12, Try.ntmps12
  go_upto_region 1 with fail
  generalize ((w.alloc (oRu ⟨fr, to_, proto, src, dst, sbits, dbits, lo, hi_, act⟩)).alloc (oTp ⟨tproto, tsrc, tsport, tdst, tdport⟩)) = W at *
  have y0s := y0.size
  generalize w.heap.size = g at h1 h2 ⊢
  have H1 := Go.Lib.hid h1
  have H2 := Go.Lib.hid h2
  clear h1 h2
  go_cut [25] (fun s wx => s = .bool (!(z && p)) ∧ Below W.heap.size W wx)
  case first =>
    cases z
    · have tok1 : True := trivial
      go_wp2_with (first
        | (clear tok1; refine wpList_load_box rfl 25 _ rfl g rfl (ruL ⟨fr, to_, proto, src, dst, sbits, dbits, lo, hi_, act⟩) _ H1.out Try.underlying25 rfl info_ru ?_)
        | (go_at_call 16; refine (czonesFit ⟨fr, to_, proto, src, dst, sbits, dbits, lo, hi_, act⟩ f t _ _ HZ.out).mono ?_; rintro e w3 ⟨rfl, y3⟩; dsimp only))
      go_meet
      exact ⟨rfl, y3⟩
    · have HP' : Hid ((proto == 0 || proto == tproto) = p) := HP
      by_cases b1 : proto = 0
      · have s1 : (proto != 0) = false := by simp [b1]
        have Hp : Hid (p = true) := Go.Lib.hid (by rw [← HP'.out]; simp [b1])
        clear b1
        have tok1 : True := trivial
        go_wp2_with (first
          | (clear tok1; refine wpList_load_box rfl 25 _ rfl g rfl (ruL ⟨fr, to_, proto, src, dst, sbits, dbits, lo, hi_, act⟩) _ H1.out Try.underlying25 rfl info_ru ?_)
          | (go_at_call 16; refine (czonesFit ⟨fr, to_, proto, src, dst, sbits, dbits, lo, hi_, act⟩ f t _ _ HZ.out).mono ?_; rintro e w3 ⟨rfl, y3⟩; have h1 := H1.out.keep y3 H1.out.lt; have h2 := H2.out.keep y3 H2.out.lt; have c2 := h1.cell 2 rfl; have d0 := h2.cell 0 rfl; clear h1 h2; dsimp only at c2 d0; dsimp only))
        go_meet
        exact ⟨by rw [Hp.out]; rfl, y3⟩
      · have s1 : (proto != 0) = true := by simp [b1]
        by_cases b2 : proto = tproto
        · have s2 : (proto != tproto) = false := by simp [b2]
          have Hp : Hid (p = true) := Go.Lib.hid (by rw [← HP'.out]; simp [b2])
          clear b1 b2
          have tok1 : True := trivial
          go_wp2_with (first
            | (clear tok1; refine wpList_load_box rfl 25 _ rfl g rfl (ruL ⟨fr, to_, proto, src, dst, sbits, dbits, lo, hi_, act⟩) _ H1.out Try.underlying25 rfl info_ru ?_)
            | (go_at_call 16; refine (czonesFit ⟨fr, to_, proto, src, dst, sbits, dbits, lo, hi_, act⟩ f t _ _ HZ.out).mono ?_; rintro e w3 ⟨rfl, y3⟩; have h1 := H1.out.keep y3 H1.out.lt; have h2 := H2.out.keep y3 H2.out.lt; have c2 := h1.cell 2 rfl; have d0 := h2.cell 0 rfl; clear h1 h2; dsimp only at c2 d0; dsimp only))
          go_meet
          exact ⟨by rw [Hp.out]; rfl, y3⟩
        · have s2 : (proto != tproto) = true := by simp [b2]
          have Hp : Hid (p = false) := Go.Lib.hid (by rw [← HP'.out]; simp [b1, b2])
          clear b1 b2
          have tok1 : True := trivial
          go_wp2_with (first
            | (clear tok1; refine wpList_load_box rfl 25 _ rfl g rfl (ruL ⟨fr, to_, proto, src, dst, sbits, dbits, lo, hi_, act⟩) _ H1.out Try.underlying25 rfl info_ru ?_)
            | (go_at_call 16; refine (czonesFit ⟨fr, to_, proto, src, dst, sbits, dbits, lo, hi_, act⟩ f t _ _ HZ.out).mono ?_; rintro e w3 ⟨rfl, y3⟩; have h1 := H1.out.keep y3 H1.out.lt; have h2 := H2.out.keep y3 H2.out.lt; have c2 := h1.cell 2 rfl; have d0 := h2.cell 0 rfl; clear h1 h2; dsimp only at c2 d0; dsimp only))
          go_meet
          exact ⟨by rw [Hp.out]; rfl, y3⟩
  case rest =>
    obtain ⟨rfl, yc⟩ := hcut
    rename World => W2
    have x2 := y0.trans (yc.mono y0s)
    have x2s : w.heap.size ≤ W2.heap.size := Nat.le_trans y0s yc.size
    have h1 := H1.out.keep yc H1.out.lt
    have h2 := H2.out.keep yc H2.out.lt
    have H1 := Go.Lib.hid h1
    have H2 := Go.Lib.hid h2
    clear h1 h2
    cases z
    · go_wp2_with fail
      go_ret
      exact ⟨by rw [HQ.out]; rfl, x2⟩
    cases p
    · go_wp2_with fail
      go_ret
      exact ⟨by rw [HQ.out]; rfl, x2⟩
    have h1 := H1.out
    have h2 := H2.out
    have c3 := h1.cell 3 rfl
    have c5 := h1.cell 5 rfl
    have d1 := h2.cell 1 rfl
    dsimp only at c3 c5 d1
    clear h1 h2
    cases i
    · go_wp2_with (go_at_call 17; refine (cin13 tsrc src sbits ⟨HT.out.s0, HT.out.s1⟩ HR.out.src W2 _ HI.out).mono ?_; rintro e w3 ⟨rfl, y3⟩; have x3 := x2.trans (y3.mono x2s); dsimp only)
      go_ret
      exact ⟨by rw [HQ.out]; rfl, x3⟩
    cases j
    · go_wp2_with (first
        | (go_at_call_of 17 ([Value.int IntKind.u32 src, Value.int IntKind.i64 sbits]); refine (cin13 tsrc src sbits ⟨HT.out.s0, HT.out.s1⟩ HR.out.src W2 _ HI.out).mono ?_; rintro e w3 ⟨rfl, y3⟩; have x3 := x2.trans (y3.mono x2s); have h1 := H1.out.keep y3 H1.out.lt; have h2 := H2.out.keep y3 H2.out.lt; have c4 := h1.cell 4 rfl; have c6 := h1.cell 6 rfl; have d3 := h2.cell 3 rfl; clear h1 h2; dsimp only at c4 c6 d3; dsimp only)
        | (go_at_call 17; refine (cin13 tdst dst dbits ⟨HT.out.d0, HT.out.d1⟩ HR.out.dst w3 _ HJ.out).mono ?_; rintro e w4 ⟨rfl, y4⟩; have x4 := x3.trans (y4.mono (Nat.le_trans x2s y3.size)); dsimp only))
      go_ret
      exact ⟨by rw [HQ.out]; rfl, x4⟩
    · go_wp2_with (first
        | (go_at_call_of 17 ([Value.int IntKind.u32 src, Value.int IntKind.i64 sbits]); refine (cin13 tsrc src sbits ⟨HT.out.s0, HT.out.s1⟩ HR.out.src W2 _ HI.out).mono ?_; rintro e w3 ⟨rfl, y3⟩; have x3 := x2.trans (y3.mono x2s); have h1 := H1.out.keep y3 H1.out.lt; have h2 := H2.out.keep y3 H2.out.lt; have c4 := h1.cell 4 rfl; have c6 := h1.cell 6 rfl; have d3 := h2.cell 3 rfl; have H1 := Go.Lib.hid h1; have H2 := Go.Lib.hid h2; clear h1 h2; dsimp only at c4 c6 d3; dsimp only)
        | (go_at_call 17; refine (cin13 tdst dst dbits ⟨HT.out.d0, HT.out.d1⟩ HR.out.dst w3 _ HJ.out).mono ?_; rintro e w4 ⟨rfl, y4⟩; have x4 := x3.trans (y4.mono (Nat.le_trans x2s y3.size)); have h1 := H1.out.keep y4 H1.out.lt; have h2 := H2.out.keep y4 H2.out.lt; have c7 := h1.cell 7 rfl; have c8 := h1.cell 8 rfl; have d4 := h2.cell 4 rfl; clear h1 h2; dsimp only at c7 c8 d4; dsimp only)
        | (go_at_call 18; refine (cisFrom tdport lo hi_ _ _ HO.out).mono ?_; rintro e w5 ⟨rfl, rfl⟩; dsimp only))
      go_ret
      exact ⟨by rw [HQ.out]; rfl, x4⟩
set_option maxRecDepth 100000 in
set_option maxHeartbeats 8000000 in
theorem cright14 : RightC14 := by
  intro l A c N hN h100 w h q hq
  subst hN
  have HQ0 := Go.Lib.hid hq
  have HC := Go.Lib.hid h
  have hlc := h.len
  have hcc := h.cap
  clear hq h
  by_cases h64 : 64 < l.length
  · have t64 : (64 : Int) < (l.length : Int) := by omega
    have HQ : Hid (q = false) := Go.Lib.hid (by
      rw [← HQ0.out]
      unfold rightU
      rw [decide_eq_false (by omega), Bool.false_and])
    go_enter Try.func10, Try.ntmps10
    go_wp2_with fail
    go_ret
    exact ⟨by rw [HQ.out]; rfl, Below.refl _ _⟩
  have t64 : ¬ (64 : Int) < (l.length : Int) := by omega
  go_enter Try.func10, Try.ntmps10
  go_wp2_with fail
  go_loopw [10] (fun iv wr => ∃ k : Nat, iv = .int .i64 k ∧ k ≤ l.length ∧ Hid (∀ j, j < k → OkU (atU l j)) ∧ Below w.heap.size w wr) (fun iv _ => l.length - (intOf iv).toNat)
  case atStart => exact ⟨0, rfl, by omega, Go.Lib.hid (fun j hj => by omega), Below.refl _ _⟩
  case round =>
    rename World => wo
    obtain ⟨k, rfl, hk, HK, yo⟩ := hrel
    have k0 : (0 : Int) ≤ (k : Int) := by omega
    by_cases hkl : k < l.length
    · have t1 : (k : Int) < (l.length : Int) := by omega
      obtain ⟨ad, rfl, hcell⟩ := HC.out.cell hkl
      obtain ⟨r, hr⟩ : ∃ r, l[k] = r := ⟨_, rfl⟩
      have HR : Hid (atU l k = r) := Go.Lib.hid (by rw [atU_get hkl]; exact hr)
      rw [hr] at hcell
      have HW := Go.Lib.hid (hcell wo yo)
      have y2 : Below w.heap.size w (wo.alloc (oRu r)) := below_alloc yo yo.size _
      have hbx := Bxo.made wo 25 (ruL r)
      clear hcell hr
      go_upto_region 6 with (refine wpList_load_at rfl 25 _ rfl (ad.add (k * 10)) rfl (ruL r) _ HW.out Try.underlying25 rfl info_ru ?_)
      generalize wo.alloc (oRu r) = W at *
      generalize wo.heap.size = g at *
      have HB := Go.Lib.hid (show Bxo W g 25 (ruL r) from hbx)
      clear hbx HW
      obtain ⟨ok, hok⟩ : ∃ b, okU r = b := ⟨_, rfl⟩
      have HOK := Go.Lib.hid hok
      clear hok
      cases ok
      · have HQ : Hid (q = false) := Go.Lib.hid (rightU_no HQ0.out hkl HR.out (fun h => by
          have h2 := (okU_iff r).2 h
          rw [HOK.out] at h2
          cases h2))
        have tok1 : True := trivial
        go_wp2_with (first
          | (clear tok1; refine wpList_load_box rfl 25 _ rfl g rfl (ruL r) _ HB.out Try.underlying25 rfl info_ru ?_)
          | (go_at_call 15; refine (cmayBe r _ _ HOK.out).mono ?_; rintro e w7 ⟨rfl, y7⟩; have x7 := y2.trans (y7.mono y2.size); dsimp only))
        go_ret
        exact ⟨by rw [HQ.out]; rfl, x7⟩
      · have tok1 : True := trivial
        go_wp2_with (first
          | (clear tok1; refine wpList_load_box rfl 25 _ rfl g rfl (ruL r) _ HB.out Try.underlying25 rfl info_ru ?_)
          | (go_at_call 15; refine (cmayBe r _ _ HOK.out).mono ?_; rintro e w7 ⟨rfl, y7⟩; have x7 := y2.trans (y7.mono y2.size); dsimp only))
        go_round
        case rel => exact ⟨k + 1, by go_num, by omega, Go.Lib.hid (fun j hj => by
          by_cases e : j = k
          · rw [e, HR.out]; exact (okU_iff r).1 HOK.out
          · exact HK.out j (by omega)), x7⟩
        case measure => simp [intOf]; omega
    · obtain rfl : k = l.length := by omega
      have t1 : ¬ (l.length : Int) < (l.length : Int) := by omega
      have HQ : Hid (q = true) := Go.Lib.hid (rightU_yes HQ0.out (by omega) HK.out)
      go_wp2_with fail
      go_ret
      exact ⟨by rw [HQ.out]; rfl, yo⟩
end Go.Proofs.Ytacohanlpgkdeaa
