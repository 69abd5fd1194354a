/- Lemmas, several texts in one. -/
import Derived.Deep.RegionHeld3
import Derived.Deep.DeepCutAuto
import Derived.Test.YtmblkgnjcmneeaaQ14
import Derived.Test.YtmblkgnjcmneeaaQ20
/- Contract of the document's own answer for package cut. -/
namespace Go.Proofs.Ytmblkgnjcmneeaa
open Go.ChangeShapes Go.WideShapes Go.ChangeAt Go.RowKit
set_option linter.unusedVariables false
set_option linter.unusedSimpArgs false

set_option maxRecDepth 100000 in
set_option maxHeartbeats 16000000 in
theorem rcut (p : Pk) (Ao : Option Addr) (co : Nat) (Ab : Option Addr) (cb : Nat) (mtu : Int) (w : World) (V : Nat → Prop) (l : List Pk) (err : Int) (hl : cutP p mtu = (l, err)) (hp : PkAt w V p Ao co Ab cb) (ho : p.opts.length ≤ 16777216) (hb : p.body.length ≤ 16777216) :
    Calls Try.prog 10 #[ipV p Ao co Ab cb, .int .i64 mtu] w (CutPost w V l err) := by
  have HPK := Go.Lib.hid hp
  have HL := Go.Lib.hid hl
  have m0 : Bxo (w.alloc (oPk p Ao co Ab cb)) w.heap.size 25 (pkL p Ao co Ab cb) := Bxo.made w 25 (pkL p Ao co Ab cb)
  have b0 : Below w.heap.size w (w.alloc (oPk p Ao co Ab cb)) := (Below.refl _ _).alloc (Nat.le_refl _) _
  have z0 : (w.alloc (oPk p Ao co Ab cb)).heap.size = w.heap.size + 1 := by simp
  have q1 := hp.o.len
  have q2 := hp.o.cap
  have q3 := hp.b.len
  have q4 := hp.b.cap
  clear hp hl
  go_enter Try.func10, Try.ntmps10
  go_upto_region 1 with fail
  have M0 := Go.Lib.hid m0
  clear m0
  generalize w.alloc (oPk p Ao co Ab cb) = W at *
  by_cases hM : mayB p = true
  · have HM := Go.Lib.hid hM
    by_cases h1 : ¬ mtu < 28
    · by_cases h2 : ¬ 65535 < mtu
      · have hN : ¬ (mayB p = false ∨ mtu < 28 ∨ 65535 < mtu) := by rw [hM]; simp; omega
        clear hM
        have hm := (mayB_iff p).1 HM.out
        have p40 := hm.p40
        have fit := hm.fit
        have o0 := hm.o0
        clear hm
        go_upto_region 3 with (first
          | (refine wpList_load_box rfl 25 _ rfl w.heap.size rfl (pkL p Ao co Ab cb) _ M0.out Try.underlying25 rfl info_pk ?_)
          | (go_at_call 21; refine (rmay0 p Ao co Ab cb W).mono ?_; rintro e w1 ⟨rfl, y1⟩; rw [HM.out]; have M1 := Go.Lib.hid (M0.out.keep y1 M0.out.lt); have x1 := b0.trans (y1.mono b0.size); have z1 := y1.size; dsimp only))
        have d9 := M1.out.cell 9 rfl
        have d10 := M1.out.cell 10 rfl
        have d2 := M1.out.cell 2 rfl
        have w1a : IntKind.i64.wrap (20 + (p.opts.length : Int)) = 20 + (p.opts.length : Int) := IntWalk.i64_in _ (by omega)
        have w1b : IntKind.i64.wrap (20 + (p.opts.length : Int) + (p.body.length : Int)) = 20 + (p.opts.length : Int) + (p.body.length : Int) := IntWalk.i64_in _ (by omega)
        by_cases h3 : 20 + (p.opts.length : Int) + (p.body.length : Int) ≤ mtu
        · have HE : Hid (l = [p] ∧ err = 0) := Go.Lib.hid (by have := HL.out; unfold cutP at this; rw [if_neg hN, if_pos h3] at this; injection this with a b; exact ⟨a.symm, b.symm⟩)
          clear hN
          go_wp2_with (refine wpList_load_box rfl 25 _ rfl w.heap.size rfl (pkL p Ao co Ab cb) _ M1.out Try.underlying25 rfl info_pk ?_)
          refine bodyPost_ret (v := .tuple #[.slice (some ⟨w1.heap.size, 0, none⟩) 1 1, .int .i64 0]) ?_ rfl (CutPost.one HE.out.1 HE.out.2 HPK.out x1)
          simp [results, Try.results10, go_sem]
        · cases hdf : p.df
          · rw [hdf] at d2
            have HD := Go.Lib.hid hdf
            clear hdf
            have w2a : IntKind.i64.wrap (mtu - (20 + (p.opts.length : Int))) = mtu - (20 + (p.opts.length : Int)) := IntWalk.i64_in _ (by omega)
            have hst : stepC p mtu % 8 = 0 ∧ stepC p mtu ≤ mtu - (20 + (p.opts.length : Int)) ∧ mtu - (20 + (p.opts.length : Int)) < stepC p mtu + 8 := by unfold stepC; omega
            obtain ⟨N, hN2⟩ : ∃ N, stepC p mtu = N := ⟨_, rfl⟩
            have HN2 := Go.Lib.hid hN2
            rw [hN2] at hst
            clear hN2
            obtain ⟨s0, s1, s2⟩ := hst
            have HNN := Go.Lib.hid hN
            clear hN
            go_upto_region 9 with fail
            go_loop [7] (fun i => ∃ n : Int, i = .int .i64 n ∧ N ≤ n ∧ n ≤ mtu - (20 + (p.opts.length : Int))) (fun i => (intOf i - N).toNat)
            case atStart => exact ⟨_, rfl, s1, Int.le_refl _⟩
            case round =>
              obtain ⟨n, rfl, n0, n1⟩ := hrel
              by_cases hn : n = N
              · subst hn
                have t0 : (Int.tmod n 8 != 0) = false := tmod8z s0
                by_cases h8 : n < 8
                · have HE : Hid (l = [] ∧ err = 4) := Go.Lib.hid (by have := HL.out; unfold cutP at this; rw [if_neg HNN.out, if_neg (by omega), if_neg (by rw [HD.out]; simp), if_pos (by rw [HN2.out]; exact h8)] at this; injection this with a b; exact ⟨a.symm, b.symm⟩)
                  go_wp2_with fail
                  refine bodyPost_ret (v := .tuple #[.slice none 0 0, .int .i64 4]) ?_ rfl (CutPost.none_ HE.out.1 HE.out.2 x1)
                  simp [results, Try.results10, go_sem]
                · obtain ⟨m, rfl⟩ : ∃ m : Nat, n = (m : Int) := ⟨n.toNat, by omega⟩
                  have HE : Hid (l = cutL m p ∧ err = 0) := Go.Lib.hid (by have := HL.out; unfold cutP at this; rw [if_neg HNN.out, if_neg (by omega), if_neg (by rw [HD.out]; simp), if_neg (by rw [HN2.out]; exact h8)] at this; injection this with a b; rw [HN2.out] at a; exact ⟨a.symm, b.symm⟩)
                  go_upto_region 15 with (refine wpList_load_box rfl 25 _ rfl w.heap.size rfl (pkL p Ao co Ab cb) _ M1.out Try.underlying25 rfl info_pk ?_)
                  have B2 : Hid (Bxo (w1.alloc (oPk p Ao co Ab cb)) w1.heap.size 25 (pkL p Ao co Ab cb)) := Go.Lib.hid (Bxo.made w1 25 (pkL p Ao co Ab cb))
                  have y2 : Below w1.heap.size w1 (w1.alloc (oPk p Ao co Ab cb)) := (Below.refl _ _).alloc (Nat.le_refl _) _
                  have z2 : w1.heap.size < (w1.alloc (oPk p Ao co Ab cb)).heap.size := by simp
                  have HI : Hid (LeftI w V p m Ao co w1.heap.size (w1.alloc (oPk p Ao co Ab cb)) none 0 [] p Ab cb) := Go.Lib.hid ⟨x1.trans (y2.mono x1.size), B2.out, OwnK.none_ _ _, (fun e he => by cases he), rfl, HPK.out, x1.size, z2, by simp, rfl⟩
                  generalize w1.alloc (oPk p Ao co Ab cb) = W2 at *
                  have gl0 := x1.size
                  clear B2 y2 z2 z1 x1 M1 d9 d10 d2 HNN HD HN2 h3 t0 s0 s1 s2 w1a w1b w2a n0 n1 y1 b0 z0 q3 q4 h1 h2 M0
                  generalize w1.heap.size = gl at *
                  go_loopw [8] (fun s wr => ∃ (A2 : Option Addr) (c2 : Nat) (es : List Ep) (q : Pk) (Aq : Option Addr) (cq : Nat), s = .slice A2 es.length c2 ∧ LeftI w V p m Ao co gl wr A2 c2 es q Aq cq) (fun s _ => 16777300 - lenOf s)
                  case atStart => exact ⟨none, 0, [], p, Ab, cb, rfl, HI.out⟩
                  case round =>
                    obtain ⟨A2, c2, es, q, Aq, cq, rfl, hI⟩ := hrel
                    clear HI
                    have HI := Go.Lib.hid hI
                    clear hI
                    have d10 := HI.out.box.cell 10 rfl
                    have d4 := HI.out.box.cell 4 rfl
                    have hes := HI.out.few
                    have c21 := HI.out.row.cap.1
                    have c22 := HI.out.row.cap.2
                    have q3 := HI.out.pk.b.len
                    have q4 := HI.out.pk.b.cap
                    obtain ⟨i0, hi, hz0, hz1, hz2⟩ := info_parts info_ipz
                    by_cases hgt : m < q.body.length
                    · obtain ⟨adq, rfl⟩ : ∃ ad, Aq = some ad := by
                        rcases HI.out.pk.b.bs with h | ⟨ad, h, _⟩
                        · rw [h] at hgt; simp at hgt
                        · exact ⟨ad, h⟩
                      have hgt2 : (m : Int) < (q.body.length : Int) := by omega
                      have k3 : (m : Int) ≤ (cq : Int) := by omega
                      have qo0 := HI.out.off
                      have HQ := HI.out
                      have wo : IntKind.i64.wrap (q.off + (m : Int)) = q.off + (m : Int) := IntWalk.i64_in _ (by omega)
                      clear HQ
                      go_upto_region 17 with (refine wpList_load_box rfl 25 _ rfl gl rfl (pkL q Ao co (some adq) cq) _ HI.out.box Try.underlying25 rfl info_pk ?_)
                      have B5 : Hid (Bxo (wr.alloc (oPk q Ao co (some adq) cq)) wr.heap.size 25 (pkL q Ao co (some adq) cq)) := Go.Lib.hid (Bxo.made wr 25 (pkL q Ao co (some adq) cq))
                      have y5 : Below wr.heap.size wr (wr.alloc (oPk q Ao co (some adq) cq)) := (Below.refl _ _).alloc (Nat.le_refl _) _
                      generalize wr.alloc (oPk q Ao co (some adq) cq) = W5 at *
                      have e10 := (HI.out.box.keep y5 HI.out.glt).cell 10 rfl
                      have hif : (if cq = m then some adq else some (adq.add m)) = some (adq.add m) := if_neg (by omega)
                      have k1 : (0 : Int) ≤ (m : Int) := by omega
                      go_upto_region 18 with (refine wpList_store_any rfl 23 _ _ rfl wr.heap.size 10 25 _ [.slice (some adq) m cq] _ rfl rfl rfl B5.out info_bs (by show 10 + 1 ≤ 11; omega) (by simp [Value.oneCell']) ?_; intro w6 hb6 ho6; have B6 := Go.Lib.hid hb6; clear hb6)
                      go_upto_region 19 with (refine wpList_store_any rfl 4 _ _ rfl wr.heap.size 3 25 _ [.bool true] _ rfl rfl rfl B6.out info_b1 (by show 3 + 1 ≤ 11; omega) (by simp [Value.oneCell']) ?_; intro w7 hb7 ho7; have B7 := Go.Lib.hid hb7; clear hb7)
                      have htk : (q.body.take m).length = m := by rw [List.length_take]; omega
                      have B8 : Hid (Bxo w7 wr.heap.size 25 (pkL (firstC m q) Ao co (some adq) cq)) := Go.Lib.hid (by have h := B7.out; unfold firstC; unfold pkL; dsimp only; rw [htk]; exact h)
                      have HI7 := Go.Lib.hid (HI.out.step ((y5.trans (ho6.below (Nat.le_refl _))).trans (ho7.below (Nat.le_refl _))))
                      have V9 : Hid (Bxo (w7.alloc (oPk (firstC m q) Ao co (some adq) cq)) w7.heap.size 25 (pkL (firstC m q) Ao co (some adq) cq)) := Go.Lib.hid (Bxo.made w7 25 (pkL (firstC m q) Ao co (some adq) cq))
                      have HI9 := Go.Lib.hid (HI7.out.step ((Below.refl w7.heap.size w7).alloc (Nat.le_refl _) (oPk (firstC m q) Ao co (some adq) cq)))
                      clear htk B7 B6 B5 y5 ho6 ho7 e10 d10 d4 HI
                      go_upto_region 20 with (first
                        | (refine wpList_load_box rfl 25 _ rfl wr.heap.size rfl (pkL (firstC m q) Ao co (some adq) cq) _ B8.out Try.underlying25 rfl info_pk ?_)
                        | (at_builtin; refine wpList_append_rdK rfl _ _ 28 rfl (gl + 1) 25 i0 _ 11 104 Try.underlying28 hi hz0 hz1 hz2 rfl (by omega) (.slice A2 es.length c2) es.length (es.flatMap Ep.L) rfl HI9.out.row (some ⟨w7.heap.size, 0, none⟩) 1 1 (firstE q m Ao co adq cq).L rfl rfl (fun h => by cases h) (.inr ⟨_, rfl, V9.out.at⟩) (ep_L1 _) (by unfold maxLen; omega) (by omega) HI9.out.glt ?_; intro v10 w10 ho10 hg10 hat10; obtain ⟨A10, c10, rfl⟩ := own_slice ho10; rw [ownBlock_blk] at hg10; have HO10 := Go.Lib.hid ho10; have HG10 := Go.Lib.hid hg10; clear ho10 hg10 hat10; dsimp only))
                      have e10 := (HI9.out.box.keep (HI9.out.grown HG10.out) (Nat.lt_succ_self _)).cell 10 rfl
                      have B10 : Hid (Bxo w10 gl 25 (pkL q Ao co (some adq) cq)) := Go.Lib.hid (HI9.out.box.keep (HI9.out.grown HG10.out) (Nat.lt_succ_self _))
                      go_upto_region 21 with (refine wpList_store_any rfl 23 _ _ rfl gl 10 25 _ [.slice (some (adq.add m)) (q.body.length - m) (cq - m)] _ rfl rfl rfl B10.out info_bs (by show 10 + 1 ≤ 11; omega) (by simp [Value.oneCell']) ?_; intro w11 hb11 ho11; have B11 := Go.Lib.hid hb11; clear hb11)
                      have e4 := B11.out.cell 4 rfl
                      go_wp2_with (refine wpList_store_any rfl 3 _ _ rfl gl 4 25 _ [.int .i64 (q.off + m)] _ rfl rfl rfl B11.out info_i1 (by show 4 + 1 ≤ 11; omega) (by simp [Value.oneCell']) ?_; intro w12 hb12 ho12; have B12 := Go.Lib.hid hb12; clear hb12)
                      have hdr : (q.body.drop m).length = q.body.length - m := List.length_drop
                      have HN := Go.Lib.hid (HI9.out.next (by omega) hgt HO10.out HG10.out (ho11.trans ho12) (by have h := B12.out; unfold restC; unfold pkL; dsimp only; rw [hdr]; exact h))
                      try simp only [Act.put, List.setIfInBounds_toArray, List.set_cons_zero, List.set_cons_succ]
                      go_round
                      case rel => exact ⟨A10, c10, es ++ [(firstE q m Ao co adq cq)], restC m q, some (adq.add m), cq - m, by simp, HN.out⟩
                      case measure => simp [lenOf]; omega
                    · have hgt2 : ¬ (m : Int) < (q.body.length : Int) := by omega
                      have V9 : Hid (Bxo (wr.alloc (oPk q Ao co Aq cq)) wr.heap.size 25 (pkL q Ao co Aq cq)) := Go.Lib.hid (Bxo.made wr 25 (pkL q Ao co Aq cq))
                      have HI9 := Go.Lib.hid (HI.out.step ((Below.refl wr.heap.size wr).alloc (Nat.le_refl _) (oPk q Ao co Aq cq)))
                      go_wp2_with (first
                        | (refine wpList_load_box rfl 25 _ rfl gl rfl (pkL q Ao co Aq cq) _ HI.out.box Try.underlying25 rfl info_pk ?_)
                        | (at_builtin; refine wpList_append_rdK rfl _ _ 28 rfl (gl + 1) 25 i0 _ 11 104 Try.underlying28 hi hz0 hz1 hz2 rfl (by omega) (.slice A2 es.length c2) es.length (es.flatMap Ep.L) rfl HI9.out.row (some ⟨wr.heap.size, 0, none⟩) 1 1 (⟨q, Ao, co, Aq, cq⟩ : Ep).L rfl rfl (fun h => by cases h) (.inr ⟨_, rfl, V9.out.at⟩) (ep_L1 _) (by unfold maxLen; omega) (by omega) HI9.out.glt ?_; intro v10 w10 ho10 hg10 hat10; obtain ⟨A10, c10, rfl⟩ := own_slice ho10; rw [ownBlock_blk] at hg10; have HO10 := Go.Lib.hid ho10; have HG10 := Go.Lib.hid hg10; clear ho10 hg10 hat10; dsimp only))
                      refine bodyPost_ret (v := .tuple #[.slice A10 (es.length + 1) c10, .int .i64 0]) ?_ rfl (HI9.out.last (by omega) (by omega) HO10.out HG10.out HE.out.1 HE.out.2)
                      simp [results, Try.results10, go_sem]
              · have t0 : (Int.tmod n 8 != 0) = true := tmod8 (by omega)
                have t1 : IntKind.i64.wrap (n - 1) = n - 1 := IntWalk.i64_in _ (by omega)
                go_wp2_with fail
                go_round
                case rel => exact ⟨n - 1, rfl, by omega, by omega⟩
                case measure => simp [intOf]; omega
          · have HE : Hid (l = [] ∧ err = 7) := Go.Lib.hid (by have := HL.out; unfold cutP at this; rw [if_neg hN, if_neg h3, if_pos hdf] at this; injection this with a b; exact ⟨a.symm, b.symm⟩)
            clear hN
            rw [hdf] at d2
            go_wp2_with fail
            refine bodyPost_ret (v := .tuple #[.slice none 0 0, .int .i64 7]) ?_ rfl (CutPost.none_ HE.out.1 HE.out.2 x1)
            simp [results, Try.results10, go_sem]
      · have HE : Hid (l = [] ∧ err = 1) := Go.Lib.hid (by have := HL.out; unfold cutP at this; rw [if_pos (by omega)] at this; injection this with a b; exact ⟨a.symm, b.symm⟩)
        clear hM
        have h2 : 65535 < mtu := by omega
        go_wp2_with (first
          | (refine wpList_load_box rfl 25 _ rfl w.heap.size rfl (pkL p Ao co Ab cb) _ M0.out Try.underlying25 rfl info_pk ?_)
          | (go_at_call 21; refine (rmay0 p Ao co Ab cb W).mono ?_; rintro e w1 ⟨rfl, y1⟩; rw [HM.out]; have M1 := Go.Lib.hid (M0.out.keep y1 M0.out.lt); have x1 := b0.trans (y1.mono b0.size); have z1 := y1.size; dsimp only))
        refine bodyPost_ret (v := .tuple #[.slice none 0 0, .int .i64 1]) ?_ rfl (CutPost.none_ HE.out.1 HE.out.2 x1)
        simp [results, Try.results10, go_sem]
    · have HE : Hid (l = [] ∧ err = 1) := Go.Lib.hid (by have := HL.out; unfold cutP at this; rw [if_pos (by omega)] at this; injection this with a b; exact ⟨a.symm, b.symm⟩)
      clear hM
      have h1 : mtu < 28 := by omega
      go_wp2_with (first
        | (refine wpList_load_box rfl 25 _ rfl w.heap.size rfl (pkL p Ao co Ab cb) _ M0.out Try.underlying25 rfl info_pk ?_)
        | (go_at_call 21; refine (rmay0 p Ao co Ab cb W).mono ?_; rintro e w1 ⟨rfl, y1⟩; rw [HM.out]; have M1 := Go.Lib.hid (M0.out.keep y1 M0.out.lt); have x1 := b0.trans (y1.mono b0.size); have z1 := y1.size; dsimp only))
      refine bodyPost_ret (v := .tuple #[.slice none 0 0, .int .i64 1]) ?_ rfl (CutPost.none_ HE.out.1 HE.out.2 x1)
      simp [results, Try.results10, go_sem]
  · have HM : Hid (mayB p = false) := Go.Lib.hid (by simpa using hM)
    have HE : Hid (l = [] ∧ err = 1) := Go.Lib.hid (by have := HL.out; unfold cutP at this; rw [if_pos (.inl HM.out)] at this; injection this with a b; exact ⟨a.symm, b.symm⟩)
    clear hM
    go_wp2_with (first
      | (refine wpList_load_box rfl 25 _ rfl w.heap.size rfl (pkL p Ao co Ab cb) _ M0.out Try.underlying25 rfl info_pk ?_)
      | (go_at_call 21; refine (rmay0 p Ao co Ab cb W).mono ?_; rintro e w1 ⟨rfl, y1⟩; rw [HM.out]; have M1 := Go.Lib.hid (M0.out.keep y1 M0.out.lt); have x1 := b0.trans (y1.mono b0.size); have z1 := y1.size; dsimp only))
    refine bodyPost_ret (v := .tuple #[.slice none 0 0, .int .i64 1]) ?_ rfl (CutPost.none_ HE.out.1 HE.out.2 x1)
    simp [results, Try.results10, go_sem]
end Go.Proofs.Ytmblkgnjcmneeaa
