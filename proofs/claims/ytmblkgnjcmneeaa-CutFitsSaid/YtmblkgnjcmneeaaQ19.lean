/- Lemmas, several texts in one. -/
import Derived.Deep.RegionHeld3
import Derived.Deep.DeepCutAuto
import Derived.Test.YtmblkgnjcmneeaaQ14
import Derived.Test.YtmblkgnjcmneeaaQ17
import Derived.Test.YtmblkgnjcmneeaaQ04
import Derived.Test.YtmblkgnjcmneeaaQ05
import Derived.Test.YtmblkgnjcmneeaaQ01
import Derived.Test.YtmblkgnjcmneeaaRows
import Derived.WalkKit
import Derived.ProofKit
import Derived.OpenShut
/- A statement of layer 8: each piece fits, and their bodies are the packet's. -/
namespace Go.Proofs.Ytmblkgnjcmneeaa
open Go.ChangeShapes Go.WideShapes Go.ChangeAt Go.RowKit
set_option linter.unusedVariables false
set_option linter.unusedSimpArgs false

/-- while the pieces are looked at: their bodies so far, in a row of the law's own. -/
structure FitI (w4 : World) (wr : World) (A : Option Addr) (c : Nat) (bs : List UInt8) : Prop where
  below : Below w4.heap.size w4 wr
  row : wr.ownsRow w4.heap.size 5 1 (.slice A bs.length c) bs.length (bs.map bv)
theorem FitI.step {w4 wr wx : World} {A : Option Addr} {c : Nat} {bs : List UInt8} (h : FitI w4 wr A c bs) (y : Below wr.heap.size wr wx) : FitI w4 wx A c bs :=
  ⟨h.below.trans (y.mono h.below.size), own_keepA h.row (fun g hg => y.block g (by
    rcases own_addr h.row with ⟨rfl, _⟩ | ⟨g', rfl, _, hl⟩
    · cases hg
    · injection hg with hg; subst hg; exact hl))⟩
theorem FitI.push {w4 w6 w10 : World} {A A' : Option Addr} {c c' : Nat} {bs bs' : List UInt8} (h : FitI w4 w6 A c bs) (hrow : w10.ownsRow w4.heap.size 5 1 (.slice A' (bs.length + bs'.length) c') (bs.length + bs'.length) (bs.map bv ++ bs'.map bv)) (hg : w6.grownBy w10 (blk A)) : FitI w4 w10 A' c' (bs ++ bs') := by
  have hA : ∀ g, blk A = some g → w4.heap.size ≤ g := fun g hg => by
    rcases own_addr h.row with ⟨rfl, _⟩ | ⟨g', rfl, h1, _⟩
    · cases hg
    · injection hg with hg; subst hg; exact h1
  refine ⟨h.below.trans (grown_below hg hA h.below.size), ?_⟩
  rw [List.length_append, List.map_append]
  exact hrow
theorem FitI.only {w4 wr wx : World} {A : Option Addr} {c g : Nat} {bs : List UInt8} (h : FitI w4 wr A c bs) (ho : Only g wr wx) (hg : w4.heap.size ≤ g) (hn : ∀ g', blk A = some g' → g' ≠ g) : FitI w4 wx A c bs :=
  ⟨h.below.trans (ho.below hg), own_keepA h.row (fun g' e => ho.block g' (hn g' e))⟩
theorem bv_one8 (l : List UInt8) : ∀ u ∈ l.map bv, u.oneCell' = true := fun u hu => by
  obtain ⟨b, _, rfl⟩ := List.mem_map.1 hu
  rfl
theorem own_bytes {w : World} {base : Nat} {A : Option Addr} {c : Nat} {l : List UInt8} (h : w.ownsRow base 5 1 (.slice A l.length c) l.length (l.map bv)) : Bs w w.heap.size A l := by
  rcases own_addr h with ⟨_, hz, _⟩ | ⟨g, rfl, _, hg⟩
  · exact .inl (List.eq_nil_of_length_eq_zero hz)
  · refine .inr ⟨_, rfl, hg, fun j b hj => ?_⟩
    have hl := (List.getElem?_eq_some_iff.1 hj).1
    rw [Addr.add_mid, Nat.zero_add, own_cells h j (by omega), List.getElem?_map, hj]
    rfl
theorem csame8 (p : Pk) (Ao : Option Addr) (co : Nat) (Ab : Option Addr) (cb : Nat) (Ao' : Option Addr) (co' : Nat) (Ab' : Option Addr) (cb' : Nat) (w : World)
    (ho : Bs w w.heap.size Ao p.opts) (hb : Bs w w.heap.size Ab p.body) (ho' : Bs w w.heap.size Ao' p.opts) (hb' : Bs w w.heap.size Ab' p.body) :
    Calls Try.prog 14 #[pkV p Ao co Ab cb, pkV p Ao' co' Ab' cb'] w fun e w' => e = .returned (.bool true) ∧ Below w.heap.size w w' := by
  have h : sameB p p = true := (sameB_iff p p).2 rfl
  have := csameP p p Ao co Ab cb Ao' co' Ab' cb' w ho hb ho' hb'
  rwa [h] at this
theorem ByIn.rdc {w : World} {V : Nat → Prop} {A : Option Addr} {c : Nat} {l : List UInt8} (h : ByIn w V A c l) : RdC w A (l.map bv) := by
  rcases h.bs with h | ⟨ad, e, _, hc⟩
  · subst h; exact .inl rfl
  · refine .inr ⟨ad, e, fun j u hj => ?_⟩
    rw [List.getElem?_map, Option.map_eq_some_iff] at hj
    obtain ⟨b, hb, rfl⟩ := hj
    exact hc j b hb
set_option maxRecDepth 100000 in
set_option maxHeartbeats 16000000 in
theorem cutFits (kA : AwakeC8) (kC : CutC8) (p : Pk) (Ao : Option Addr) (co : Nat) (Ab : Option Addr) (cb : Nat) (mtu : Int) (w : World) (hp : PkIn w p Ao co Ab cb) :
    Calls Try.prog 4 #[pkV p Ao co Ab cb, .int .i64 mtu] w fun e w' => e = .returned (.bool true) ∧ Below w.heap.size w w' := by
  have HPK := Go.Lib.hid (pk_in hp)
  have q1 := hp.blen
  have q2 := hp.bcap
  clear hp
  have m0 : Bxo (w.alloc (oPk p Ao co Ab cb)) w.heap.size 25 (pkL p Ao co Ab cb) := Bxo.made w 25 (pkL p Ao co Ab cb)
  have b0 : Below w.heap.size w (w.alloc (oPk p Ao co Ab cb)) := (Below.refl _ _).alloc (Nat.le_refl _) _
  go_enter Try.func4, Try.ntmps4
  go_upto_region 1 with fail
  have M0 := Go.Lib.hid m0
  clear m0
  generalize w.alloc (oPk p Ao co Ab cb) = W at *
  go_upto_region 3 with (go_at_call 7; refine (kA W).mono ?_; rintro e w1 ⟨rfl, y1⟩; have M1 := Go.Lib.hid (M0.out.keep y1 M0.out.lt); have x1 := b0.trans (y1.mono b0.size); clear y1 M0 b0; dsimp only)
  obtain ⟨sb, hsb⟩ : ∃ b, (decide (p.opts.length ≤ 100) && decide (p.body.length ≤ 3000)) = b := ⟨_, rfl⟩
  have HSB := Go.Lib.hid hsb
  clear hsb
  cases sb
  · go_wp2_with (first
      | (refine wpList_load_box rfl 25 _ rfl w.heap.size rfl (pkL p Ao co Ab cb) _ M1.out Try.underlying25 rfl info_pk ?_)
      | (go_at_call 8; refine (rshort p Ao co Ab cb w1).mono ?_; rintro e w2 ⟨rfl, y2⟩; rw [HSB.out]; have M2 := Go.Lib.hid (M1.out.keep y2 M1.out.lt); have x2 := x1.trans (y2.mono x1.size); clear y2; dsimp only))
    go_ret
    exact ⟨rfl, x2⟩
  · have hsz : p.opts.length ≤ 100 ∧ p.body.length ≤ 3000 := by have := HSB.out; simp only [Bool.and_eq_true, decide_eq_true_eq] at this; exact this
    have hop := hsz.1
    have hob := hsz.2
    clear hsz
    obtain ⟨l, err, hl⟩ : ∃ l err, cutP p mtu = (l, err) := ⟨_, _, rfl⟩
    have HL := Go.Lib.hid hl
    clear hl
    go_upto_region 6 with (first
      | (refine wpList_load_box rfl 25 _ rfl w.heap.size rfl (pkL p Ao co Ab cb) _ M1.out Try.underlying25 rfl info_pk ?_)
      | (go_at_call 8; refine (rshort p Ao co Ab cb w1).mono ?_; rintro e w2 ⟨rfl, y2⟩; rw [HSB.out]; have M2 := Go.Lib.hid (M1.out.keep y2 M1.out.lt); have x2 := x1.trans (y2.mono x1.size); clear y2; dsimp only)
      | (refine wpList_load_box rfl 25 _ rfl w.heap.size rfl (pkL p Ao co Ab cb) _ M2.out Try.underlying25 rfl info_pk ?_)
      | (go_at_call 9; refine (kC p Ao co Ab cb mtu w2 (oldV w) l err HL.out (HPK.out.at x2) (by omega) (by omega)).mono ?_; rintro e w4 ⟨A4, c4, es, rfl, hes, hrow, hels, y4⟩; have HES := Go.Lib.hid hes; have HROW := Go.Lib.hid hrow; have HELS := Go.Lib.hid hels; have M4 := Go.Lib.hid (M2.out.keep y4 M2.out.lt); have x4 := x2.trans (y4.mono x2.size); clear hes hrow hels; dsimp only))
    clear M1 x1
    by_cases h0 : err = 0
    · subst h0
      obtain ⟨n, hR⟩ := cutP_ok HL.out
      have HR := Go.Lib.hid hR
      clear hR
      have hlen : es.length = l.length := by have := congrArg List.length HES.out; simpa using this
      have HLEN := Go.Lib.hid hlen
      clear hlen
      have hec1 := HROW.out.cap.1
      have hec2 := HROW.out.cap.2
      have hfew : es.length ≤ p.body.length / 8 + 1 := by have := HR.out.few; have := HLEN.out; omega
      have hpos : 0 < es.length := by have := HR.out.pos; have := HLEN.out; omega
      have hm0 := HR.out.may.o0
      have hm1 := HR.out.may.o1
      go_upto_region 10 with fail
      go_loopw [7, 8] (fun s i wr => ∃ (A7 : Option Addr) (c7 : Nat) (bs : List UInt8) (k : Nat), s = .slice A7 bs.length c7 ∧ i = .int .i64 k ∧ k ≤ es.length ∧ FitI w4 wr A7 c7 bs ∧ Hid (bs = p.body.take (k * n)) ∧ bs.length ≤ p.body.length) (fun _ i _ => es.length - (intOf i).toNat)
      case atStart => exact ⟨none, 0, [], 0, rfl, rfl, by omega, ⟨Below.refl _ _, own_none _ _ _ _⟩, Go.Lib.hid (by simp), by simp⟩
      case round =>
        obtain ⟨A7, c7, bs, k, rfl, rfl, hk, hF, HBS, hbl⟩ := hrel
        have HF := Go.Lib.hid hF
        clear hF
        by_cases hlt : k < es.length
        · have HKL : Hid (k < l.length) := Go.Lib.hid (by have := HLEN.out; omega)
          obtain ⟨ad, rfl, hK⟩ := HROW.out.at_ hlt
          have HK := Go.Lib.hid hK
          have HE0 := Go.Lib.hid (HELS.out es[k] (List.getElem_mem hlt))
          have HEQ : Hid (es[k].p = pieceAt p n es.length k) := Go.Lib.hid (by
            have h1 : (es.map Ep.p)[k]? = l[k]? := by rw [HES.out]
            rw [List.getElem?_map, List.getElem?_eq_getElem hlt, List.getElem?_eq_getElem HKL.out, HR.out.get HKL.out] at h1
            rw [HLEN.out]
            simpa using h1)
          have HP1 : Hid (May es[k].p ∧ 20 + (es[k].p.opts.length : Int) + (es[k].p.body.length : Int) ≤ mtu) := Go.Lib.hid (by
            have := HR.out.piece HKL.out
            rw [← HLEN.out, ← HEQ.out] at this
            exact ⟨this.1, by have h := this.2; rw [show es[k].p.opts = p.opts by rw [HEQ.out]; rfl]; exact h⟩)
          have hbn : bs.length = k * n := by
            rw [HBS.out, List.length_take]
            rcases (HR.out.bytes HKL.out).1 with h | h
            · subst h; simp
            · omega
          have HOFF : Hid (es[k].p.off = p.off + (bs.length : Int)) := Go.Lib.hid (by rw [HEQ.out, hbn]; rfl)
          have HNX : Hid (bs ++ es[k].p.body = p.body.take ((k + 1) * n)) := Go.Lib.hid (by rw [HBS.out, HEQ.out, Nat.succ_mul, List.take_add]; rfl)
          have HMF : Hid (es[k].p.mf = (p.mf || decide (k + 1 < es.length))) := Go.Lib.hid (by rw [HEQ.out]; rfl)
          have hle := HP1.out.2
          have p4 := HP1.out.1.p40
          have fi := HP1.out.1.fit
          have of0 := HP1.out.1.o0
          clear hK hbn
          generalize hge : es[k] = e at *
          clear hge
          have i1 : (0 : Int) ≤ (k : Int) := by omega
          have i2 : (k : Int) < (es.length : Int) := by omega
          have yr := HF.out.below
          go_upto_region 13 with (first
            | (refine wpList_load_pk rfl _ rfl (ad.add (k * 11)) rfl e.p e.Ao e.co e.Ab e.cb (HK.out _ yr) ?_)
            | (go_at_call 13; refine (cputYes e.p e.Ao e.co e.Ab e.cb wr HP1.out.1 HE0.out.s0 HE0.out.s1 HE0.out.d0 HE0.out.d1 (HE0.out.at yr).obs (HE0.out.at yr).bbs HE0.out.b.nil).mono ?_; rintro e5 w5 ⟨g5, c5, rfl, _, y5⟩; have HF5 := Go.Lib.hid (HF.out.step y5); have yr5 := HF5.out.below; have z5 := y5.size; dsimp only))
          go_upto_region 14 with (refine wpList_load_pk rfl _ rfl (ad.add (k * 11)) rfl e.p e.Ao e.co e.Ab e.cb (HK.out _ yr5) ?_)
          have B6 : Hid (Bxo (w5.alloc (oPk e.p e.Ao e.co e.Ab e.cb)) w5.heap.size 25 (pkL e.p e.Ao e.co e.Ab e.cb)) := Go.Lib.hid (Bxo.made w5 25 (pkL e.p e.Ao e.co e.Ab e.cb))
          have HF6 := Go.Lib.hid (HF5.out.step ((Below.refl w5.heap.size w5).alloc (Nat.le_refl _) (oPk e.p e.Ao e.co e.Ab e.cb)))
          have gx0 := yr5.size
          have gx1 : w5.heap.size < (w5.alloc (oPk e.p e.Ao e.co e.Ab e.cb)).heap.size := by simp
          have HGX : Hid (∀ g, blk A7 = some g → g < w5.heap.size) := Go.Lib.hid (fun g hg => by
            rcases own_addr HF5.out.row with ⟨rfl, _⟩ | ⟨g', rfl, _, h2⟩
            · cases hg
            · injection hg with hg; subst hg; exact h2)
          generalize w5.alloc (oPk e.p e.Ao e.co e.Ab e.cb) = W6 at *
          generalize w5.heap.size = gx at *
          have M6 := Go.Lib.hid (M4.out.keep HF6.out.below M4.out.lt)
          go_cut [77] (fun b wx => b = .bool false ∧ W6 = wx)
          case first =>
            have d4x := B6.out.cell 4 rfl
            have d3x := B6.out.cell 3 rfl
            have d4p := M6.out.cell 4 rfl
            have d3p := M6.out.cell 3 rfl
            have wo : IntKind.i64.wrap (p.off + (bs.length : Int)) = p.off + (bs.length : Int) := IntWalk.i64_in _ (by omega)
            have wl : IntKind.i64.wrap ((es.length : Int) - 1) = (es.length : Int) - 1 := IntWalk.i64_in _ (by omega)
            have j3 : ¬ mtu < 20 + (e.p.opts.length : Int) + (e.p.body.length : Int) := by omega
            have hmf := HMF.out
            rw [HOFF.out] at d4x
            obtain ⟨bp, hbp⟩ : ∃ b, p.mf = b := ⟨_, rfl⟩
            rw [hmf, hbp] at d3x
            rw [hbp] at d3p
            clear hmf hbp fi
            by_cases hk1 : k + 1 < es.length
            · have j4 : (k : Int) < (es.length : Int) - 1 := by omega
              rw [decide_eq_true hk1] at d3x
              cases bp
              · go_wp2_with fail
                go_meet
                exact ⟨rfl, rfl⟩
              · go_wp2_with fail
                go_meet
                exact ⟨rfl, rfl⟩
            · have j4 : ¬ (k : Int) < (es.length : Int) - 1 := by omega
              rw [decide_eq_false hk1] at d3x
              cases bp
              · go_wp2_with fail
                go_meet
                exact ⟨rfl, rfl⟩
              · go_wp2_with fail
                go_meet
                exact ⟨rfl, rfl⟩
          case rest =>
            obtain ⟨rfl, rfl⟩ := hcut
            obtain ⟨i0, hi, hz0, hz1, hz2⟩ := info_parts info_byte
            have d10x := B6.out.cell 10 rfl
            have HEB := Go.Lib.hid (HE0.out.at HF6.out.below)
            have hbb := HE0.out.b.len
            go_upto_region 17 with (first
              | (at_builtin; refine wpList_append_rdK rfl _ _ 23 rfl w4.heap.size 5 i0 _ 1 1 Try.underlying23 hi hz0 hz1 hz2 rfl (by omega) (.slice A7 bs.length c7) bs.length (bs.map bv) rfl HF6.out.row e.Ab e.p.body.length e.cb (e.p.body.map bv) rfl (by simp) (fun h => by have := HE0.out.b.nil h; omega) HEB.out.b.rdc (bv_one8 _) (by unfold maxLen; omega) (by omega) HF6.out.below.size ?_; intro v10 w10 ho10 hg10 hat10; obtain ⟨A10, c10, rfl⟩ := own_slice ho10; rw [ownBlock_blk] at hg10; have HF10 := Go.Lib.hid (HF6.out.push ho10 hg10); have B10 : Hid (Bxo w10 gx 25 (pkL e.p e.Ao e.co e.Ab e.cb)) := Go.Lib.hid ((hg10.block gx gx1 (fun h => Nat.lt_irrefl _ (HGX.out gx h.symm))).trans B6.out); have HN10 : Hid (∀ g', blk A10 = some g' → g' ≠ gx) := Go.Lib.hid (fun g' h' => by rcases hat10 with ha | ha; (rw [ownBlock_blk, ownBlock_blk, h'] at ha; have := HGX.out g' ha.symm; omega); (rw [ownBlock_blk, h'] at ha; injection ha with ha; omega)); clear ho10 hg10 hat10; dsimp only))
            have M10 := Go.Lib.hid (M4.out.keep HF10.out.below M4.out.lt)
            have hxg : w.heap.size < gx := by have := M4.out.lt; omega
            clear d10x hi hz0 hz1 hz2 HEB B6 HF6 HF5 HF M6
            try simp only [Act.put, List.setIfInBounds_toArray, List.set_cons_zero, List.set_cons_succ]
            refine wp_region_held_drew (S := fun Y => Bxo Y w.heap.size 25 (pkL p Ao co Ab cb)) (by kernel_rfl) ?_ (fun hHeld => ?_)
            · exact M10.out
            have B10 : Hid (Bxo w10.drew gx 25 (pkL e.p e.Ao e.co e.Ab e.cb)) := Go.Lib.hid B10.out
            refine wpAnyH_take (i := 0) (oi := ⟨some 82, _, _, _, _, _⟩) (v := ?_) rfl (by kernel_rfl) (by kernel_rfl) (by kernel_rfl) (fun _ _ _ h => h) (Or.inl ⟨by rfl, ?_⟩) (by assumption) ?_
            rotate_left
            · intro w hSw; (try dsimp only at hSw); go_simp; (try with_reducible rfl)
            try simp only [Act.put, List.setIfInBounds_toArray, List.set_cons_zero, List.set_cons_succ]
            refine wpAnyH_take (i := 1) (oi := ⟨some 83, _, _, _, _, _⟩) (v := ?_) rfl (by kernel_rfl) (by kernel_rfl) (by kernel_rfl) (fun _ _ _ h => h) (Or.inl ⟨by rfl, ?_⟩) (by assumption) ?_
            rotate_left
            · intro w hSw; have c4 := hSw.cell 4 rfl; (try dsimp only at hSw); go_simp; (try with_reducible rfl)
            try simp only [Act.put, List.setIfInBounds_toArray, List.set_cons_zero, List.set_cons_succ]
            refine wpAnyH_take (i := 2) (oi := ⟨some 84, _, _, _, _, _⟩) (v := ?_) rfl (by kernel_rfl) (by kernel_rfl) (by kernel_rfl) (fun _ _ _ h => h) (Or.inl ⟨by rfl, ?_⟩) (by assumption) ?_
            rotate_left
            · intro w hSw; (try dsimp only at hSw); go_simp; (try with_reducible rfl)
            try simp only [Act.put, List.setIfInBounds_toArray, List.set_cons_zero, List.set_cons_succ]
            refine wpAnyH_take (i := 3) (oi := ⟨some 85, _, _, _, _, _⟩) (v := ?_) rfl (by kernel_rfl) (by kernel_rfl) (by kernel_rfl) (fun _ _ _ h => h) (Or.inl ⟨by rfl, ?_⟩) (by assumption) ?_
            rotate_left
            · intro w hSw; have c3 := hSw.cell 3 rfl; (try dsimp only at hSw); go_simp; (try with_reducible rfl)
            try simp only [Act.put, List.setIfInBounds_toArray, List.set_cons_zero, List.set_cons_succ]
            refine wpAnyH_take (i := 4) (oi := ⟨some 86, _, _, _, _, _⟩) (v := ?_) rfl (by kernel_rfl) (by kernel_rfl) (by kernel_rfl) (fun _ _ _ h => h) (Or.inl ⟨by rfl, ?_⟩) (by assumption) ?_
            rotate_left
            · intro w hSw; (try dsimp only at hSw); go_simp; (try with_reducible rfl)
            try simp only [Act.put, List.setIfInBounds_toArray, List.set_cons_zero, List.set_cons_succ]
            refine wpAnyH_take (i := 5) (oi := ⟨some 87, _, _, _, _, _⟩) (v := ?_) rfl (by kernel_rfl) (by kernel_rfl) (by kernel_rfl) (fun _ _ _ h => h) (Or.inl ⟨by rfl, ?_⟩) (by assumption) ?_
            rotate_left
            · intro w hSw; have c10 := hSw.cell 10 rfl; (try dsimp only at hSw); go_simp; (try with_reducible rfl)
            try simp only [Act.put, List.setIfInBounds_toArray, List.set_cons_zero, List.set_cons_succ]
            refine wpAnyH_take (i := 6) (oi := ⟨some 88, _, _, _, _, _⟩) (v := ?_) rfl (by kernel_rfl) (by kernel_rfl) (by kernel_rfl) (fun _ _ _ h => h) (Or.inl ⟨by rfl, ?_⟩) (by assumption) ?_
            rotate_left
            · intro w hSw; (try dsimp only at hSw); go_simp; (try with_reducible rfl)
            try simp only [Act.put, List.setIfInBounds_toArray, List.set_cons_zero, List.set_cons_succ]
            refine wpAnyH_ready (rs := [7]) (by kernel_rfl) (by simp) (AllReadyH.cons (o := ⟨none, _, _, _, _, _⟩) rfl (fun Kc hKc => ?_) AllReadyH.nil)
            rw [if_pos (by rfl)]
            refine step_store_any 3 _ _ rfl gx 4 25 _ [.int .i64 p.off] _ rfl rfl rfl B10.out info_i1 (by show 4 + 1 ≤ 11; omega) (by simp [Value.oneCell']) ?_; intro w11 hb11 ho11; have B11 := Go.Lib.hid hb11; clear hb11
            refine hKc.out _ _ (hHeld.only ho11 (by omega)) (fun hHeld => ?_)
            clear hKc Kc
            try simp only [Act.put, List.setIfInBounds_toArray, List.set_cons_zero, List.set_cons_succ]
            refine wpAnyH_take (i := 8) (oi := ⟨some 89, _, _, _, _, _⟩) (v := ?_) rfl (by kernel_rfl) (by kernel_rfl) (by kernel_rfl) (fun _ _ _ h => h) (Or.inl ⟨by rfl, ?_⟩) (by assumption) ?_
            rotate_left
            · intro w hSw; (try dsimp only at hSw); go_simp; (try with_reducible rfl)
            try simp only [Act.put, List.setIfInBounds_toArray, List.set_cons_zero, List.set_cons_succ]
            refine wpAnyH_ready (rs := [9]) (by kernel_rfl) (by simp) (AllReadyH.cons (o := ⟨none, _, _, _, _, _⟩) rfl (fun Kc hKc => ?_) AllReadyH.nil)
            rw [if_pos (by rfl)]
            refine step_store_any 4 _ _ rfl gx 3 25 _ [.bool p.mf] _ rfl rfl rfl B11.out info_b1 (by show 3 + 1 ≤ 11; omega) (by simp [Value.oneCell']) ?_; intro w12 hb12 ho12; have B12 := Go.Lib.hid hb12; clear hb12
            refine hKc.out _ _ (hHeld.only ho12 (by omega)) (fun hHeld => ?_)
            clear hKc Kc
            try simp only [Act.put, List.setIfInBounds_toArray, List.set_cons_zero, List.set_cons_succ]
            refine wpAnyH_take (i := 10) (oi := ⟨some 90, _, _, _, _, _⟩) (v := ?_) rfl (by kernel_rfl) (by kernel_rfl) (by kernel_rfl) (fun _ _ _ h => h) (Or.inl ⟨by rfl, ?_⟩) (by assumption) ?_
            rotate_left
            · intro w hSw; (try dsimp only at hSw); go_simp; (try with_reducible rfl)
            try simp only [Act.put, List.setIfInBounds_toArray, List.set_cons_zero, List.set_cons_succ]
            refine wpAnyH_ready (rs := [11]) (by kernel_rfl) (by simp) (AllReadyH.cons (o := ⟨none, _, _, _, _, _⟩) rfl (fun Kc hKc => ?_) AllReadyH.nil)
            rw [if_pos (by rfl)]
            refine step_store_any 23 _ _ rfl gx 10 25 _ [.slice Ab p.body.length cb] _ rfl rfl rfl B12.out info_bs (by show 10 + 1 ≤ 11; omega) (by simp [Value.oneCell']) ?_; intro w13 hb13 ho13; have B13 := Go.Lib.hid hb13; clear hb13
            refine hKc.out _ _ (hHeld.only ho13 (by omega)) (fun hHeld => ?_)
            clear hKc Kc
            try simp only [Act.put, List.setIfInBounds_toArray, List.set_cons_zero, List.set_cons_succ]
            refine wpAnyH_done (by kernel_rfl) ?_ _
            have ho := (ho11.trans ho12).trans ho13
            have HF13 : Hid (FitI w4 w13 A10 c10 (bs ++ e.p.body)) := Go.Lib.hid ((HF10.out.step (below_drew (Below.refl _ _))).only ho (by omega) HN10.out)
            have B14 : Hid (Bxo w13 gx 25 (pkL p e.Ao e.co Ab cb)) := Go.Lib.hid (by have h := B13.out; rw [HEQ.out] at h; exact h)
            have M13 := Go.Lib.hid hHeld
            clear hHeld ho11 ho12 ho13 ho B11 B12 B13 HF10 M10 B10
            have HEO : Hid (Bs w13 w13.heap.size e.Ao p.opts) := Go.Lib.hid (by have := (HE0.out.at HF13.out.below).obs; rw [show e.p.opts = p.opts by rw [HEQ.out]; rfl] at this; exact this)
            have HPX := Go.Lib.hid (HPK.out.at (x4.trans (HF13.out.below.mono x4.size)))
            go_wp2_with (first
              | (refine wpList_load_box rfl 25 _ rfl gx rfl (pkL p e.Ao e.co Ab cb) _ B14.out Try.underlying25 rfl info_pk ?_)
              | (refine wpList_load_box rfl 25 _ rfl w.heap.size rfl (pkL p Ao co Ab cb) _ M13.out Try.underlying25 rfl info_pk ?_)
              | (go_at_call 14; refine (csame8 p e.Ao e.co Ab cb Ao co Ab cb w13 HEO.out HPX.out.bbs HPX.out.obs HPX.out.bbs).mono ?_; rintro e5 w14 ⟨rfl, y14⟩; have HF14 := Go.Lib.hid (HF13.out.step y14); dsimp only))
            have hlx : bs.length + e.p.body.length = (bs ++ e.p.body).length := by simp
            try simp only [Act.put, List.setIfInBounds_toArray, List.set_cons_zero, List.set_cons_succ]
            go_round
            case rel => exact ⟨A10, c10, bs ++ e.p.body, k + 1, by rw [hlx], by go_num, by omega, HF14.out, Go.Lib.hid HNX.out, by rw [HNX.out, List.length_take]; omega⟩
            case measure => simp [intOf]; omega
        · have i2 : ¬ (k : Int) < (es.length : Int) := by omega
          have hke : k = es.length := by omega
          have HALL : Hid (bs = p.body) := Go.Lib.hid (by rw [HBS.out, hke, HLEN.out]; exact HR.out.all)
          clear hke
          have Mr := Go.Lib.hid (M4.out.keep HF.out.below M4.out.lt)
          have xr := x4.trans (HF.out.below.mono x4.size)
          have d10 := Mr.out.cell 10 rfl
          have HPX := Go.Lib.hid (HPK.out.at xr)
          have HBB : Hid (Bs wr wr.heap.size A7 bs) := Go.Lib.hid (own_bytes HF.out.row)
          have wq : IntKind.i64.wrap ((p.body.length : Int).tdiv 8 + 1) = ((p.body.length / 8 + 1 : Nat) : Int) := by
            have : (p.body.length : Int).tdiv 8 = ((p.body.length / 8 : Nat) : Int) := rfl
            rw [this]; exact IntWalk.i64_in _ (by omega)
          have j5 : (es.length : Int) ≤ ((p.body.length / 8 + 1 : Nat) : Int) := by omega
          go_wp2_with (go_at_call 15; refine (rsame_d A7 bs.length c7 bs Ab p.body.length cb p.body wr.heap.size wr.heap.size wr rfl rfl HBB.out HPX.out.bbs (by omega) (by omega) true (by rw [HALL.out]; simp)).mono ?_; rintro e5 w5 ⟨rfl, m5, rfl⟩; dsimp only)
          rw [decide_eq_true (show (es.length : Int) ≤ (p.body.length : Int) / 8 + 1 by omega)]
          go_ret
          exact ⟨rfl, below_dn xr m5⟩
    · have hne : (err != 0) = true := by simpa using h0
      have hz : es = [] := by
        rcases cutP_err HL.out with h | h
        · exact absurd h h0
        · have := HES.out; rw [h.1] at this; exact List.map_eq_nil_iff.1 this
      subst hz
      clear h0
      go_wp2_with fail
      go_ret
      exact ⟨rfl, x4⟩
end Go.Proofs.Ytmblkgnjcmneeaa

/- The statements of this seat as given: each law returns true for every input, and its arguments read afterwards as they read before. -/
namespace Go.Proofs.Ytmblkgnjcmneeaa
open Go.ChangeShapes Go.WideShapes Go.ChangeAt Go.RowKit
set_option linter.unusedVariables false
theorem Try.own : ownKnob Try.prog.godebug = none := by kernel_rfl
theorem Try.laidOut : laidOutB Try.prog = true := by kernel_rfl
namespace cutFits
set_option maxRecDepth 100000 in
theorem lifted (os : Go.Os) (started : os.Started) (H : Type) (enc : TypeId × Value → H) :
    ReturnsInHanded {} Try.checked os 4 .any (Rows.cutFitsSpec.pre6 enc Try.prog Try.f4 Rows.cutFitsRow.domain false) (Rows.cutFitsSpec.post enc Try.prog Try.f4 false true false false) := by
  refine returnsInHanded_of_change (C := Try.checked) Try.own started (by kernel_rfl) Try.func4
    (ChangeSpec.witness6 (enc := enc) (C := Try.checked) false ⟨#[], #[.agg #[.int .i64 0, .int .i64 0, .bool false, .bool false, .int .i64 0, .int .i64 0, .int .i64 0, .int .u32 0, .int .u32 0, .slice none 0 0, .slice none 0 0], .int .i64 0], []⟩ 8 (by kernel_rfl) (by kernel_rfl) (by kernel_rfl) (by kernel_rfl)) ?_
  intro W base args ds gs before hval0 hW hcnd _
  have hval : ∀ (j : Nat) t v, Try.f4.params[j]? = some t → args[j]? = some v → Value.okWide Try.prog W .any base t v := hval0
  have hW' := hW
  obtain ⟨p, q, hA0, hV, rfl, hfz, hnd⟩ := hW
  have hA : DataW.TrodAll enc Try.prog W 0 (fun _ => true) true Try.f4.params.toList args.toList ds p := hA0
  rw [Try.params4] at hA hval
  obtain ⟨v0, vs0, d0, ds0, p0, q0, hargs, rfl, rfl, h0, r0⟩ := trodAll_cons hA
  obtain ⟨v1, vs1, d1, ds1, p1, q1, rfl, rfl, rfl, h1, r1⟩ := trodAll_cons r0
  obtain ⟨rfl, rfl, rfl⟩ := trodAll_nil r1
  obtain rfl : args = #[v0, v1] := by cases args; simp_all
  obtain ⟨rfl, rfl⟩ := trodVars_none hV
  obtain ⟨p0_, Ao0, co0, Ab0, cb0, rfl, hp0⟩ := open_pk (hval 0 25 v0 rfl rfl) h0
  obtain ⟨a1, rfl, rfl, rfl, w1⟩ := open_int Try.underlying3 (hval 1 3 v1 rfl rfl) h1
  refine (cutFits (cawake8 ccut8) ccut8 p0_ Ao0 co0 Ab0 cb0 a1 W hp0).mono fun e W' ⟨he, hg⟩ => ?_
  subst he
  exact ⟨_, rfl, law_end Try.laidOut (by kernel_rfl) rfl (by kernel_rfl) Try.underlying4 ⟨rfl, rfl, rfl⟩ hW' hg⟩
theorem over : Rows.cutFitsRow.holds Try.pinned (OpenSpec.ofChange Rows.cutFitsSpec) :=
  OpenClaim.holds_of_wide 4 Try.f4 rfl rfl rfl rfl rfl rfl rfl ⟨rfl, rfl, rfl, rfl, rfl⟩ rfl rfl rfl rfl rfl (by kernel_rfl) Try.func4 (by kernel_rfl)
    (of_decide_eq_true (by kernel_rfl)) (by unfold Func.isWrapper; first | (rw [if_pos (by decide +kernel)]; kernel_rfl) | (rw [if_neg (by decide +kernel)]; exact ⟨rfl, rfl⟩))
    (fun os started H enc _ => lifted os started H enc)
/-- ████ THE STATEMENT ████ -/
theorem proved : Rows.CutFitsSaid :=
  over
end cutFits

end Go.Proofs.Ytmblkgnjcmneeaa
