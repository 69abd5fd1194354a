/- Lemmas, several texts in one. -/
import Derived.Deep.RegionHeld3
import Derived.Deep.DeepCutAuto
import Derived.Test.YtmblkgnjcmneeaaQ14
import Derived.Test.YtmblkgnjcmneeaaQ21
import Derived.Test.YtmblkgnjcmneeaaQ17
import Derived.Test.YtmblkgnjcmneeaaQ23
import Derived.Test.YtmblkgnjcmneeaaRows
import Derived.WalkKit
import Derived.ProofKit
import Derived.OpenShut
import Derived.Test.YtmblkgnjcmneeaaQ01
/- A statement of layer 8: a packet is cut as the document says. -/
namespace Go.Proofs.Ytmblkgnjcmneeaa
open Go.ChangeShapes Go.WideShapes Go.ChangeAt Go.RowKit
set_option linter.unusedVariables false
set_option linter.unusedSimpArgs false

theorem rsameE (p q : Pk) (h : q = p) (Ao : Option Addr) (co : Nat) (Ab : Option Addr) (cb : Nat) (Ao' : Option Addr) (co' : Nat) (Ab' : Option Addr) (cb' : Nat) (w : World) (V V' : Nat → Prop) (hM : May p) (h1 : PkAt w V p Ao co Ab cb) (h2 : PkAt w V' q Ao' co' Ab' cb') :
    Calls Try.prog 12 #[ipV p Ao co Ab cb, ipV q Ao' co' Ab' cb'] w fun e w' => e = .returned (.bool true) ∧ Below w.heap.size w w' := by
  subst h
  exact rsameH q Ao co Ab cb Ao' co' Ab' cb' w hM.h h1.s0 h1.s1 h1.d0 h1.d1 h1.obs h1.o.nil h1.bbs h2.obs h2.o.nil h2.bbs
set_option maxRecDepth 100000 in
set_option maxHeartbeats 16000000 in
theorem cutRight (kA : AwakeC8) (kC : CutC8) (kM : MostC8) (p : Pk) (Ao : Option Addr) (co : Nat) (Ab : Option Addr) (cb : Nat) (mtu : Int) (w : World) (hp : PkIn w p Ao co Ab cb) :
    Calls Try.prog 3 #[pkV p Ao co Ab cb, .int .i64 mtu] w fun e w' => e = .returned (.bool true) ∧ Below w.heap.size w w' := by
  have HPK := Go.Lib.hid (pk_in hp)
  have q1 := hp.blen
  have q2 := hp.bcap
  clear hp
  have m0 : Bxo (w.alloc (oPk p Ao co Ab cb)) w.heap.size 25 (pkL p Ao co Ab cb) := Bxo.made w 25 (pkL p Ao co Ab cb)
  have b0 : Below w.heap.size w (w.alloc (oPk p Ao co Ab cb)) := (Below.refl _ _).alloc (Nat.le_refl _) _
  go_enter Try.func3, Try.ntmps3
  go_upto_region 1 with fail
  have M0 := Go.Lib.hid m0
  clear m0
  generalize w.alloc (oPk p Ao co Ab cb) = W at *
  go_upto_region 3 with (go_at_call 7; refine (kA W).mono ?_; rintro e w1 ⟨rfl, y1⟩; have M1 := Go.Lib.hid (M0.out.keep y1 M0.out.lt); have x1 := b0.trans (y1.mono b0.size); clear y1 M0 b0; dsimp only)
  obtain ⟨sb, hsb⟩ : ∃ b, (decide (p.opts.length ≤ 100) && decide (p.body.length ≤ 3000)) = b := ⟨_, rfl⟩
  have HSB := Go.Lib.hid hsb
  clear hsb
  cases sb
  · go_wp2_with (first
      | (refine wpList_load_box rfl 25 _ rfl w.heap.size rfl (pkL p Ao co Ab cb) _ M1.out Try.underlying25 rfl info_pk ?_)
      | (go_at_call 8; refine (rshort p Ao co Ab cb w1).mono ?_; rintro e w2 ⟨rfl, y2⟩; rw [HSB.out]; have M2 := Go.Lib.hid (M1.out.keep y2 M1.out.lt); have x2 := x1.trans (y2.mono x1.size); clear y2; dsimp only))
    go_ret
    exact ⟨rfl, x2⟩
  · have hsz : p.opts.length ≤ 100 ∧ p.body.length ≤ 3000 := by have := HSB.out; simp only [Bool.and_eq_true, decide_eq_true_eq] at this; exact this
    have hop := hsz.1
    have hob := hsz.2
    clear hsz
    obtain ⟨l, err, hl⟩ : ∃ l err, cutP p mtu = (l, err) := ⟨_, _, rfl⟩
    have HL := Go.Lib.hid hl
    clear hl
    go_upto_region 6 with (first
      | (refine wpList_load_box rfl 25 _ rfl w.heap.size rfl (pkL p Ao co Ab cb) _ M1.out Try.underlying25 rfl info_pk ?_)
      | (go_at_call 8; refine (rshort p Ao co Ab cb w1).mono ?_; rintro e w2 ⟨rfl, y2⟩; rw [HSB.out]; have M2 := Go.Lib.hid (M1.out.keep y2 M1.out.lt); have x2 := x1.trans (y2.mono x1.size); clear y2; dsimp only)
      | (refine wpList_load_box rfl 25 _ rfl w.heap.size rfl (pkL p Ao co Ab cb) _ M2.out Try.underlying25 rfl info_pk ?_)
      | (go_at_call 9; refine (kC p Ao co Ab cb mtu w2 (oldV w) l err HL.out (HPK.out.at x2) (by omega) (by omega)).mono ?_; rintro e w4 ⟨A4, c4, es, rfl, hes, hrow, hels, y4⟩; have HES := Go.Lib.hid hes; have HROW := Go.Lib.hid hrow; have HELS := Go.Lib.hid hels; have M4 := Go.Lib.hid (M2.out.keep y4 M2.out.lt); have x4 := x2.trans (y4.mono x2.size); clear hes hrow hels; dsimp only))
    clear M1 x1
    go_upto_region 7 with (first
      | (refine wpList_load_box rfl 25 _ rfl w.heap.size rfl (pkL p Ao co Ab cb) _ M4.out Try.underlying25 rfl info_pk ?_)
      | (go_at_call 10; refine (rcut p Ao co Ab cb mtu w4 (oldV w) l err HL.out (HPK.out.at x4) (by omega) (by omega)).mono ?_; rintro e w5 ⟨A5, c5, es2, rfl, hes, hrow, hels, y5⟩; have HES2 := Go.Lib.hid hes; have HROW2 := Go.Lib.hid hrow; have HELS2 := Go.Lib.hid hels; have M5 := Go.Lib.hid (M4.out.keep y5 M4.out.lt); have x5 := x4.trans (y5.mono x4.size); clear hes hrow hels; dsimp only))
    have HLEN : Hid (l.length = es.length) := Go.Lib.hid (by rw [← HES.out]; simp)
    have hl2 : es2.length = es.length := by have h1 := congrArg List.length HES.out; have h2 := congrArg List.length HES2.out; simp at h1 h2; omega
    rw [hl2]
    have HL2 := Go.Lib.hid hl2
    clear hl2
    have hec1 := HROW.out.cap.1
    have hec2 := HROW.out.cap.2
    have hed1 : es.length ≤ c5 := by have := HROW2.out.cap.1; have := HL2.out; omega
    have hed2 := HROW2.out.cap.2
    have hee : (err != err) = false := by simp
    go_upto_region 9 with (first
      | (refine wpList_load_box rfl 25 _ rfl w.heap.size rfl (pkL p Ao co Ab cb) _ M5.out Try.underlying25 rfl info_pk ?_)
      | (go_at_call 11; refine (most_n kM p Ao co Ab cb mtu w5 (oldV w) l err es.length HLEN.out HL.out (HPK.out.at x5) (by omega) (by omega)).mono ?_; rintro e w6 ⟨rfl, y6⟩; have x6 := x5.trans (y6.mono x5.size); dsimp only))
    clear hee
    go_upto_region 10 with fail
    go_loopw [9] (fun i wr => ∃ k : Nat, k ≤ es.length ∧ i = .int .i64 k ∧ Below w5.heap.size w5 wr) (fun i _ => es.length - (intOf i).toNat)
    case atStart => exact ⟨0, by omega, rfl, y6⟩
    case round =>
      obtain ⟨k, hk, rfl, yr⟩ := hrel
      by_cases hlt : k < es.length
      · have hlt2 : k < es2.length := by have := HL2.out; omega
        obtain ⟨ad, rfl, hK⟩ := HROW.out.at_ hlt
        obtain ⟨ad2, rfl, hK2⟩ := HROW2.out.at_ hlt2
        have hyr := Go.Lib.hid (y5.trans (yr.mono y5.size))
        have HK : Hid (∀ Y, Below wr.heap.size wr Y → ∀ j v, (pkL es[k].p es[k].Ao es[k].co es[k].Ab es[k].cb)[j]? = some v → Y.cell? ((ad.add (k * 11)).add j) = some v) := Go.Lib.hid (fun Y y => hK Y (hyr.out.trans (y.mono hyr.out.size)))
        have HK2 : Hid (∀ Y, Below wr.heap.size wr Y → ∀ j v, (pkL es2[k].p es2[k].Ao es2[k].co es2[k].Ab es2[k].cb)[j]? = some v → Y.cell? ((ad2.add (k * 11)).add j) = some v) := Go.Lib.hid (fun Y y => hK2 Y (yr.trans (y.mono yr.size)))
        have HE := Go.Lib.hid ((HELS.out es[k] (List.getElem_mem hlt)).at hyr.out)
        have HE2 := Go.Lib.hid ((HELS2.out es2[k] (List.getElem_mem hlt2)).at yr)
        have hpe : es2[k].p = es[k].p := by
          have h1 : (es2.map Ep.p)[k]? = (es.map Ep.p)[k]? := by rw [HES.out, HES2.out]
          rw [List.getElem?_map, List.getElem?_map, List.getElem?_eq_getElem hlt, List.getElem?_eq_getElem hlt2] at h1
          simpa using h1
        have HPE := Go.Lib.hid hpe
        have HM : Hid (May es[k].p) := Go.Lib.hid (by
          have hkl : k < l.length := by have := HLEN.out; omega
          have e : es[k].p = l[k] := by
            have h1 : (es.map Ep.p)[k]? = l[k]? := by rw [HES.out]
            rw [List.getElem?_map, List.getElem?_eq_getElem hlt, List.getElem?_eq_getElem hkl] at h1
            simpa using h1
          have he0 : err = 0 := by rcases cutP_err HL.out with h | h; exact h; exfalso; rw [h.1] at hkl; simp at hkl
          obtain ⟨n, hR⟩ := cutP_ok (he0 ▸ HL.out)
          rw [e, hR.get hkl]; exact (hR.piece hkl).1)
        clear hK hK2 hpe
        generalize es[k] = e at *
        generalize es2[k] = e2 at *
        have i1 : (0 : Int) ≤ (k : Int) := by omega
        have i2 : (k : Int) < (es.length : Int) := by omega
        go_upto_region 12 with fail
        try simp only [Act.put, List.setIfInBounds_toArray, List.set_cons_zero, List.set_cons_succ]
        refine wp_region_held_drew (S := fun Y => Below wr.heap.size wr Y) (by kernel_rfl) ?_ (fun hHeld => ?_)
        · exact below_drew (Below.refl _ _)
        refine wpAnyH_take (i := 0) (oi := ⟨some 51, _, _, _, _, _⟩) (v := ?_) rfl (by kernel_rfl) (by kernel_rfl) (by kernel_rfl) (fun _ _ _ h => h) (Or.inl ⟨by rfl, ?_⟩) (by assumption) ?_
        rotate_left
        · intro w hSw; (try dsimp only at hSw); go_simp; (try with_reducible rfl)
        try simp only [Act.put, List.setIfInBounds_toArray, List.set_cons_zero, List.set_cons_succ]
        refine wpAnyH_take (i := 1) (oi := ⟨some 52, _, _, _, _, _⟩) (v := ?_) rfl (by kernel_rfl) (by kernel_rfl) (by kernel_rfl) (fun _ _ _ h => h) (Or.inl ⟨by rfl, ?_⟩) (by assumption) ?_
        rotate_left
        · intro w hSw; (try dsimp only at hSw); go_simp; (try with_reducible rfl)
        try simp only [Act.put, List.setIfInBounds_toArray, List.set_cons_zero, List.set_cons_succ]
        refine wpAnyH_take (i := 2) (oi := ⟨some 53, _, _, _, _, _⟩) (v := ?_) rfl (by kernel_rfl) (by kernel_rfl) (by kernel_rfl) (fun _ _ _ h => h) (Or.inl ⟨by rfl, ?_⟩) (by assumption) ?_
        rotate_left
        · intro w hSw; (try dsimp only at hSw); go_simp; (try with_reducible rfl)
        try simp only [Act.put, List.setIfInBounds_toArray, List.set_cons_zero, List.set_cons_succ]
        refine wpAnyH_take (i := 3) (oi := ⟨some 54, _, _, _, _, _⟩) (v := ipV e.p e.Ao e.co e.Ab e.cb) rfl (by kernel_rfl) (by kernel_rfl) (by kernel_rfl) (fun _ _ _ h => h) (yieldsIf_pk (by rfl) _ rfl (ad.add (k * 11)) rfl e.p e.Ao e.co e.Ab e.cb (fun Y h => HK.out Y h)) (by assumption) ?_
        try simp only [Act.put, List.setIfInBounds_toArray, List.set_cons_zero, List.set_cons_succ]
        refine wpAnyH_take (i := 4) (oi := ⟨some 55, _, _, _, _, _⟩) (v := ?_) rfl (by kernel_rfl) (by kernel_rfl) (by kernel_rfl) (fun _ _ _ h => h) (Or.inl ⟨by rfl, ?_⟩) (by assumption) ?_
        rotate_left
        · intro w hSw; (try dsimp only at hSw); go_simp; (try with_reducible rfl)
        try simp only [Act.put, List.setIfInBounds_toArray, List.set_cons_zero, List.set_cons_succ]
        refine wpAnyH_take (i := 5) (oi := ⟨some 56, _, _, _, _, _⟩) (v := ?_) rfl (by kernel_rfl) (by kernel_rfl) (by kernel_rfl) (fun _ _ _ h => h) (Or.inl ⟨by rfl, ?_⟩) (by assumption) ?_
        rotate_left
        · intro w hSw; (try dsimp only at hSw); go_simp; (try with_reducible rfl)
        try simp only [Act.put, List.setIfInBounds_toArray, List.set_cons_zero, List.set_cons_succ]
        refine wpAnyH_take (i := 6) (oi := ⟨some 57, _, _, _, _, _⟩) (v := ?_) rfl (by kernel_rfl) (by kernel_rfl) (by kernel_rfl) (fun _ _ _ h => h) (Or.inl ⟨by rfl, ?_⟩) (by assumption) ?_
        rotate_left
        · intro w hSw; (try dsimp only at hSw); go_simp; (try with_reducible rfl)
        try simp only [Act.put, List.setIfInBounds_toArray, List.set_cons_zero, List.set_cons_succ]
        refine wpAnyH_take (i := 7) (oi := ⟨some 58, _, _, _, _, _⟩) (v := ipV e2.p e2.Ao e2.co e2.Ab e2.cb) rfl (by kernel_rfl) (by kernel_rfl) (by kernel_rfl) (fun _ _ _ h => h) (yieldsIf_pk (by rfl) _ rfl (ad2.add (k * 11)) rfl e2.p e2.Ao e2.co e2.Ab e2.cb (fun Y h => HK2.out Y h)) (by assumption) ?_
        try simp only [Act.put, List.setIfInBounds_toArray, List.set_cons_zero, List.set_cons_succ]
        refine wpAnyH_ready (rs := [8]) (by kernel_rfl) (by simp) (AllReadyH.cons (o := ⟨some 59, _, _, _, _, _⟩) rfl (fun Kc hKc => ?_) AllReadyH.nil)
        go_simp
        go_at_call 12; refine (rsameE e.p e2.p HPE.out e.Ao e.co e.Ab e.cb e2.Ao e2.co e2.Ab e2.cb wr.drew _ _ HM.out (HE.out.at (below_drew (Below.refl _ _))) (HE2.out.at (below_drew (Below.refl _ _)))).mono ?_; rintro e7 w7 ⟨rfl, y7⟩; have yr2 := yr.trans (((below_drew (Below.refl _ wr)).trans y7).mono yr.size); dsimp only
        refine hKc.out _ _ (hHeld.trans y7) (fun hHeld => ?_)
        clear hKc Kc
        try simp only [Act.put, List.setIfInBounds_toArray, List.set_cons_zero, List.set_cons_succ]
        refine wpAnyH_take (i := 9) (oi := ⟨some 60, _, _, _, _, _⟩) (v := ?_) rfl (by kernel_rfl) (by kernel_rfl) (by kernel_rfl) (fun _ _ _ h => h) (Or.inl ⟨by rfl, ?_⟩) (by assumption) ?_
        rotate_left
        · intro w hSw; (try dsimp only at hSw); go_simp; (try with_reducible rfl)
        try simp only [Act.put, List.setIfInBounds_toArray, List.set_cons_zero, List.set_cons_succ]
        refine wpAnyH_done (by kernel_rfl) ?_ _
        go_wp2_with fail
        try simp only [Act.put, List.setIfInBounds_toArray, List.set_cons_zero, List.set_cons_succ]
        go_round
        case rel => exact ⟨k + 1, by omega, by go_num, yr2⟩
        case measure => simp [intOf]; omega
      · have i2 : ¬ (k : Int) < (es.length : Int) := by omega
        go_wp2_with fail
        go_ret
        exact ⟨rfl, x5.trans (yr.mono x5.size)⟩
end Go.Proofs.Ytmblkgnjcmneeaa

/- The statements of this seat as given: each law returns true for every input, and its arguments read afterwards as they read before. -/
namespace Go.Proofs.Ytmblkgnjcmneeaa
open Go.ChangeShapes Go.WideShapes Go.ChangeAt Go.RowKit
set_option linter.unusedVariables false
theorem Try.own : ownKnob Try.prog.godebug = none := by kernel_rfl
theorem Try.laidOut : laidOutB Try.prog = true := by kernel_rfl
namespace cutRight
set_option maxRecDepth 100000 in
theorem lifted (os : Go.Os) (started : os.Started) (H : Type) (enc : TypeId × Value → H) :
    ReturnsInHanded {} Try.checked os 3 .any (Rows.cutRightSpec.pre6 enc Try.prog Try.f3 Rows.cutRightRow.domain false) (Rows.cutRightSpec.post enc Try.prog Try.f3 false true false false) := by
  refine returnsInHanded_of_change (C := Try.checked) Try.own started (by kernel_rfl) Try.func3
    (ChangeSpec.witness6 (enc := enc) (C := Try.checked) false ⟨#[], #[.agg #[.int .i64 0, .int .i64 0, .bool false, .bool false, .int .i64 0, .int .i64 0, .int .i64 0, .int .u32 0, .int .u32 0, .slice none 0 0, .slice none 0 0], .int .i64 0], []⟩ 8 (by kernel_rfl) (by kernel_rfl) (by kernel_rfl) (by kernel_rfl)) ?_
  intro W base args ds gs before hval0 hW hcnd _
  have hval : ∀ (j : Nat) t v, Try.f3.params[j]? = some t → args[j]? = some v → Value.okWide Try.prog W .any base t v := hval0
  have hW' := hW
  obtain ⟨p, q, hA0, hV, rfl, hfz, hnd⟩ := hW
  have hA : DataW.TrodAll enc Try.prog W 0 (fun _ => true) true Try.f3.params.toList args.toList ds p := hA0
  rw [Try.params3] at hA hval
  obtain ⟨v0, vs0, d0, ds0, p0, q0, hargs, rfl, rfl, h0, r0⟩ := trodAll_cons hA
  obtain ⟨v1, vs1, d1, ds1, p1, q1, rfl, rfl, rfl, h1, r1⟩ := trodAll_cons r0
  obtain ⟨rfl, rfl, rfl⟩ := trodAll_nil r1
  obtain rfl : args = #[v0, v1] := by cases args; simp_all
  obtain ⟨rfl, rfl⟩ := trodVars_none hV
  obtain ⟨p0_, Ao0, co0, Ab0, cb0, rfl, hp0⟩ := open_pk (hval 0 25 v0 rfl rfl) h0
  obtain ⟨a1, rfl, rfl, rfl, w1⟩ := open_int Try.underlying3 (hval 1 3 v1 rfl rfl) h1
  refine (cutRight (cawake8 ccut8) ccut8 cmost8 p0_ Ao0 co0 Ab0 cb0 a1 W hp0).mono fun e W' ⟨he, hg⟩ => ?_
  subst he
  exact ⟨_, rfl, law_end Try.laidOut (by kernel_rfl) rfl (by kernel_rfl) Try.underlying4 ⟨rfl, rfl, rfl⟩ hW' hg⟩
theorem over : Rows.cutRightRow.holds Try.pinned (OpenSpec.ofChange Rows.cutRightSpec) :=
  OpenClaim.holds_of_wide 3 Try.f3 rfl rfl rfl rfl rfl rfl rfl ⟨rfl, rfl, rfl, rfl, rfl⟩ rfl rfl rfl rfl rfl (by kernel_rfl) Try.func3 (by kernel_rfl)
    (of_decide_eq_true (by kernel_rfl)) (by unfold Func.isWrapper; first | (rw [if_pos (by decide +kernel)]; kernel_rfl) | (rw [if_neg (by decide +kernel)]; exact ⟨rfl, rfl⟩))
    (fun os started H enc _ => lifted os started H enc)
/-- ████ THE STATEMENT ████ -/
theorem proved : Rows.CutRightSaid :=
  over
end cutRight

end Go.Proofs.Ytmblkgnjcmneeaa
