/- Lemmas, several texts in one. -/
import Derived.Deep.RegionHeld3
import Derived.Deep.DeepCutAuto
import Derived.Deep.CutBlock
import Derived.Test.YtmblkgnjcmneeaaQ14
import Derived.Test.YtmblkgnjcmneeaaQ25
import Derived.Test.YtmblkgnjcmneeaaQ17
import Derived.Test.YtmblkgnjcmneeaaQ05
import Derived.Test.YtmblkgnjcmneeaaQ26
import Derived.Test.YtmblkgnjcmneeaaQ06
/- A statement of layer 8: the pieces of a packet make it, put together. -/
namespace Go.Proofs.Ytmblkgnjcmneeaa
open Go.ChangeShapes Go.WideShapes Go.ChangeAt Go.RowKit
set_option linter.unusedVariables false
set_option linter.unusedSimpArgs false

/-- the packet as the statement takes it: a whole one. -/
abbrev xW8 (p : Pk) : Pk := ⟨p.tos, p.id, p.df, false, 0, p.ttl, p.proto, p.src, p.dst, p.opts, p.body⟩
theorem PkAt.w8 {w : World} {V : Nat → Prop} {p : Pk} {Ao : Option Addr} {co : Nat} {Ab : Option Addr} {cb : Nat} (h : PkAt w V p Ao co Ab cb) : PkAt w V (xW8 p) Ao co Ab cb := ⟨h.s0, h.s1, h.d0, h.d1, h.o, h.b, h.lt⟩
theorem csame9 (p : Pk) (Ao : Option Addr) (co : Nat) (Ab : Option Addr) (cb : Nat) (Ao' : Option Addr) (co' : Nat) (Ab' : Option Addr) (cb' : Nat) (w : World)
    (ho : Bs w w.heap.size Ao p.opts) (hb : Bs w w.heap.size Ab p.body) (ho' : Bs w w.heap.size Ao' p.opts) (hb' : Bs w w.heap.size Ab' p.body) :
    Calls Try.prog 14 #[pkV p Ao co Ab cb, pkV p Ao' co' Ab' cb'] w fun e w' => e = .returned (.bool true) ∧ Below w.heap.size w w' := by
  have h : sameB p p = true := (sameB_iff p p).2 rfl
  have := csameP p p Ao co Ab cb Ao' co' Ab' cb' w ho hb ho' hb'
  rwa [h] at this
theorem cut_few {p : Pk} {mtu : Int} {l : List Pk} {n : Nat} (h : CutR p mtu l n) (hb : p.body.length ≤ 1000) : l.length ≤ 126 := by have := h.few; omega
set_option maxRecDepth 100000 in
set_option maxHeartbeats 16000000 in
theorem cutWhole (kA : AwakeC8) (kC : CutC8) (p : Pk) (Ao : Option Addr) (co : Nat) (Ab : Option Addr) (cb : Nat) (mtu narrow : Int) (A' : Option Addr) (c' : Nat) (l' : List UInt8) (w : World) (hp : PkIn w p Ao co Ab cb) (hr' : Bs w w.heap.size A' l') (hc' : l'.length ≤ c') (hm' : c' ≤ 9223372036854775807) :
    Calls Try.prog 5 #[pkV p Ao co Ab cb, .int .i64 mtu, .int .i64 narrow, .slice A' l'.length c'] w fun e w' => e = .returned (.bool true) ∧ Below w.heap.size w w' := by
  have HPK := Go.Lib.hid (pk_in hp).w8
  have HO := Go.Lib.hid hr'
  have q1 := hp.blen
  have q2 := hp.bcap
  clear hp hr'
  have m0 : Bxo (w.alloc (oPk p Ao co Ab cb)) w.heap.size 25 (pkL p Ao co Ab cb) := Bxo.made w 25 (pkL p Ao co Ab cb)
  have b0 : Below w.heap.size w (w.alloc (oPk p Ao co Ab cb)) := (Below.refl _ _).alloc (Nat.le_refl _) _
  have z0 : w.heap.size < (w.alloc (oPk p Ao co Ab cb)).heap.size := by simp
  go_enter Try.func5, Try.ntmps5
  go_upto_region 1 with fail
  have M0 := Go.Lib.hid m0
  clear m0
  generalize w.alloc (oPk p Ao co Ab cb) = W at *
  go_upto_region 3 with (go_at_call 7; refine (kA W).mono ?_; rintro e w0 ⟨rfl, y1⟩; have M0 := Go.Lib.hid (M0.out.keep y1 M0.out.lt); have x0 := b0.trans (y1.mono b0.size); have z1 := y1.size; clear y1 b0; dsimp only)
  go_upto_region 4 with (first
    | (refine wpList_store_any rfl 4 _ _ rfl w.heap.size 3 25 _ [.bool false] _ rfl rfl rfl M0.out info_b1 (by show 3 + 1 ≤ 11; omega) (by simp [Value.oneCell']) ?_; intro w2 hb2 ho2; have M2 := Go.Lib.hid hb2; clear hb2 M0)
    | (refine wpList_store_any rfl 3 _ _ rfl w.heap.size 4 25 _ [.int .i64 0] _ rfl rfl rfl M2.out info_i1 (by show 4 + 1 ≤ 11; omega) (by simp [Value.oneCell']) ?_; intro w1 hb3 ho3; have M1 : Hid (Bxo w1 w.heap.size 25 (pkL (xW8 p) Ao co Ab cb)) := Go.Lib.hid hb3; clear hb3 M2))
  have x1 := (x0.trans (ho2.below (Nat.le_refl _))).trans (ho3.below (Nat.le_refl _))
  have zz : w.heap.size < w1.heap.size := by have := ho2.size; have := ho3.size; omega
  clear ho2 ho3 x0 z1 z0
  obtain ⟨x, hx⟩ : ∃ x, xW8 p = x := ⟨_, rfl⟩
  have HMX : Hid (x.mf = false ∧ x.off = 0) := Go.Lib.hid (by rw [← hx]; exact ⟨rfl, rfl⟩)
  have hbx : p.body.length = x.body.length := by rw [← hx]
  rw [hbx] at q1
  rw [hx] at M1 HPK
  clear hx hbx
  have d10 := M1.out.cell 10 rfl
  obtain ⟨sb, hsb⟩ : ∃ b, (decide (x.opts.length ≤ 100) && decide (x.body.length ≤ 3000)) = b := ⟨_, rfl⟩
  have HSB := Go.Lib.hid hsb
  clear hsb
  cases sb
  · go_wp2_with (first
      | (refine wpList_load_box rfl 25 _ rfl w.heap.size rfl (pkL x Ao co Ab cb) _ M1.out Try.underlying25 rfl info_pk ?_)
      | (go_at_call 8; refine (rshort x Ao co Ab cb w1).mono ?_; rintro e w2 ⟨rfl, y2⟩; rw [HSB.out]; have M2 := Go.Lib.hid (M1.out.keep y2 M1.out.lt); have x2 := x1.trans (y2.mono x1.size); have d10' := M2.out.cell 10 rfl; clear y2; dsimp only))
    go_ret
    exact ⟨rfl, x2⟩
  · by_cases h1000 : x.body.length ≤ 1000
    · have hop : x.opts.length ≤ 100 := by have := HSB.out; simp only [Bool.and_eq_true, decide_eq_true_eq] at this; exact this.1
      obtain ⟨l, err, hl⟩ : ∃ l err, cutP x mtu = (l, err) := ⟨_, _, rfl⟩
      have HL := Go.Lib.hid hl
      clear hl
      have g1 : ¬ (1000 : Int) < (x.body.length : Int) := by omega
      go_upto_region 7 with (first
        | (refine wpList_load_box rfl 25 _ rfl w.heap.size rfl (pkL x Ao co Ab cb) _ M1.out Try.underlying25 rfl info_pk ?_)
        | (go_at_call 8; refine (rshort x Ao co Ab cb w1).mono ?_; rintro e w2 ⟨rfl, y2⟩; rw [HSB.out]; have M2 := Go.Lib.hid (M1.out.keep y2 M1.out.lt); have x2 := x1.trans (y2.mono x1.size); have d10' := M2.out.cell 10 rfl; clear y2; dsimp only)
        | (refine wpList_load_box rfl 25 _ rfl w.heap.size rfl (pkL x Ao co Ab cb) _ M2.out Try.underlying25 rfl info_pk ?_)
        | (go_at_call 9; refine (kC x Ao co Ab cb mtu w2 (oldV w) l err HL.out (HPK.out.at x2) (by omega) (by omega)).mono ?_; rintro e w4 ⟨A4, c4, es, rfl, hes, hrow, hels, y4⟩; have HES := Go.Lib.hid hes; have HROW := Go.Lib.hid hrow; have HELS := Go.Lib.hid hels; have M4 := Go.Lib.hid (M2.out.keep y4 M2.out.lt); have x4 := x2.trans (y4.mono x2.size); clear hes hrow hels; dsimp only))
      clear d10 d10' M1 x1
      by_cases h0 : err = 0
      · subst h0
        obtain ⟨n, hR⟩ := cutP_ok HL.out
        have HR := Go.Lib.hid hR
        clear hR
        have hlen : es.length = l.length := by have := congrArg List.length HES.out; simpa using this
        have HLEN := Go.Lib.hid hlen
        clear hlen
        have hec1 := HROW.out.cap.1
        have hec2 := HROW.out.cap.2
        have h126 : es.length ≤ 126 := by have := cut_few HR.out h1000; have := HLEN.out; omega
        go_upto_block 0 with fail
        go_cut [11] (fun s wx => ∃ A7 c7 es7 U, s = .slice A7 es7.length c7 ∧ AllI w4 wx A7 c7 es7 U ∧ DoneW 2000 x (es7.map Ep.p) ∧ es7.length ≤ 20000)
        case first =>
          go_wp2_with fail
          go_loopw [11, 12] (fun s i wr => ∃ (A7 : Option Addr) (c7 : Nat) (es7 : List Ep) (U : Nat → Prop) (k : Nat), s = .slice A7 es7.length c7 ∧ i = .int .i64 k ∧ k ≤ es.length ∧ AllI w4 wr A7 c7 es7 U ∧ Hid (DoingW 2000 x n es.length k (es7.map Ep.p)) ∧ es7.length ≤ k * 126) (fun _ i _ => es.length - (intOf i).toNat)
          case atStart => exact ⟨none, 0, [], _, 0, rfl, rfl, by omega, AllI.start w4, Go.Lib.hid (doing_start 2000 x (by have := HR.out.pos; have := HLEN.out; omega)), by simp⟩
          case round =>
            obtain ⟨A7, c7, es7, U, k, rfl, rfl, hk, hI, HD, h7⟩ := hrel
            have HI := Go.Lib.hid hI
            clear hI
            have c71 := HI.out.row.cap.1
            have c72 := HI.out.row.cap.2
            by_cases hlt : k < es.length
            · have HKL : Hid (k < l.length) := Go.Lib.hid (by have := HLEN.out; omega)
              obtain ⟨ad, rfl, hK⟩ := HROW.out.at_ hlt
              have HK := Go.Lib.hid (hK wr HI.out.below)
              have HE0 := Go.Lib.hid (((HELS.out es[k] (List.getElem_mem hlt)).at HI.out.below).more (fun b hb => HI.out.old b ((HELS.out es[k] (List.getElem_mem hlt)).lt b hb)) HI.out.ult)
              have HEQ : Hid (es[k].p = l[k]'HKL.out) := Go.Lib.hid (by
                have h1 : (es.map Ep.p)[k]? = l[k]? := by rw [HES.out]
                rw [List.getElem?_map, List.getElem?_eq_getElem hlt, List.getElem?_eq_getElem HKL.out] at h1
                simpa using h1)
              have HM : Hid (May es[k].p ∧ es[k].p.body.length ≤ 1000) := Go.Lib.hid (by
                have h1 := (HR.out.piece HKL.out).1
                have h2 := HR.out.at_len HKL.out
                rw [HEQ.out, HR.out.get HKL.out]
                exact ⟨h1, by rw [h2]; omega⟩)
              obtain ⟨l2, err2, hl2⟩ : ∃ l2 err2, cutP es[k].p narrow = (l2, err2) := ⟨_, _, rfl⟩
              have HL2 := Go.Lib.hid hl2
              have p40 := HM.out.1.p40
              have pb := HM.out.2
              have HNX : Hid (err2 = 0 → DoingW 2000 x n es.length (k + 1) (es7.map Ep.p ++ l2) ∧ l2.length ≤ 126) := Go.Lib.hid (fun h => by
                subst h
                obtain ⟨n2, h2⟩ := cutP_ok hl2
                have h126 := cut_few h2 HM.out.2
                rw [HEQ.out] at h2
                have hd := HD.out
                rw [HLEN.out] at hd ⊢
                exact ⟨DoingW.step HR.out HMX.out.2 HMX.out.1 (by omega) HKL.out hd h2, h126⟩)
              clear hK hl2
              generalize es[k] = e at *
              have i1 : (0 : Int) ≤ (k : Int) := by omega
              have i2 : (k : Int) < (es.length : Int) := by omega
              go_upto_region 14 with (first
                | (refine wpList_load_pk rfl _ rfl (ad.add (k * 11)) rfl e.p e.Ao e.co e.Ab e.cb HK.out ?_)
                | (go_at_call 9; refine (kC e.p e.Ao e.co e.Ab e.cb narrow wr U l2 err2 HL2.out HE0.out (by omega) (by omega)).mono ?_; rintro e5 w5 ⟨A5, c5, es2, rfl, hes, hrow, hels, y5⟩; have HES2 := Go.Lib.hid hes; have HROW2 := Go.Lib.hid hrow; have HELS2 := Go.Lib.hid hels; have xr5 := x4.trans ((HI.out.below.trans (y5.mono HI.out.below.size)).mono x4.size); clear hes hrow hels; dsimp only))
              by_cases h02 : err2 = 0
              · subst h02
                have HN2 := Go.Lib.hid (HNX.out rfl)
                have hn2 : es2.length ≤ 126 := by have := HN2.out.2; have := congrArg List.length HES2.out; simp at this; omega
                have c51 := HROW2.out.cap.1
                have c52 := HROW2.out.cap.2
                have HI5 := Go.Lib.hid (HI.out.step y5)
                obtain ⟨i0, hi, hz0, hz1, hz2⟩ := info_parts info_ipz
                go_upto_region 12 with (at_builtin; refine wpList_append_rdK rfl _ _ 28 rfl w4.heap.size 25 i0 _ 11 104 Try.underlying28 hi hz0 hz1 hz2 rfl (by omega) (.slice A7 es7.length c7) es7.length (es7.flatMap Ep.L) rfl HI5.out.row A5 es2.length c5 (es2.flatMap Ep.L) rfl (flatK_len _) (fun h => by rcases own_addr HROW2.out with ⟨_, h1, h2⟩ | ⟨g, h1, _⟩; exact ⟨h2, h1⟩; rw [h1] at h; cases h) HROW2.out.rdAll (ep_one _) (by unfold maxLen; omega) (by omega) HI5.out.below.size ?_; intro v10 w10 ho10 hg10 hat10; obtain ⟨A10, c10, rfl⟩ := own_slice ho10; rw [ownBlock_blk] at hg10; rw [ownBlock_blk, ownBlock_blk] at hat10; have HI10 := Go.Lib.hid (HI.out.next y5 HELS2.out ho10 hg10 hat10); clear ho10 hg10 hat10; dsimp only)
                have hl10 : es7.length + es2.length = (es7 ++ es2).length := by simp
                rw [hl10]
                go_wp2_with fail
                go_round
                case rel => exact ⟨A10, c10, es7 ++ es2, _, k + 1, rfl, by go_num, by omega, HI10.out, Go.Lib.hid (by rw [List.map_append, HES2.out]; exact HN2.out.1), by rw [← hl10]; omega⟩
                case measure => simp [intOf]; omega
              · have hne : (err2 != 0) = true := by simpa using h02
                clear h02
                go_wp2_with fail
                go_ret
                exact ⟨rfl, xr5⟩
            · have i2 : ¬ (k : Int) < (es.length : Int) := by omega
              go_wp2_with fail
              go_meet
              exact ⟨A7, c7, es7, U, rfl, HI.out, (by rcases HD.out with ⟨h, _⟩ | ⟨_, h⟩; exact absurd h hlt; exact h), by omega⟩
        case rest =>
          obtain ⟨A7, c7, es7, U, rfl, hI, hD, h7⟩ := hcut
          have xB := Go.Lib.hid (x4.trans (hI.below.mono x4.size))
          have M9 := Go.Lib.hid (M4.out.keep hI.below M4.out.lt)
          have HA := Go.Lib.hid hI
          have HU9 := Go.Lib.hid hI.ult
          have HSTW := Go.Lib.hid (hD.st (room := 2000) (by omega) (by omega) HR.out.may HMX.out.2 HMX.out.1)
          have bx9 := hI.below.size
          have bxw := M4.out.lt
          clear hI hD
          obtain ⟨U9, hU9⟩ : ∃ U9, U9 = U := ⟨_, rfl⟩
          rw [← hU9] at HA HU9
          clear hU9
          go_upto_region 18 with (go_at_call 16; refine (cnew 2000 10 wc ⟨2000, 10, 0, []⟩ 0 (if_pos (by omega))).mono ?_; rintro e w11 ⟨Ap, cp, rfl, hp, y11⟩; have HP := Go.Lib.hid hp; clear hp; dsimp only)
          have y12 : Below w11.heap.size w11 (w11.alloc (poO ⟨2000, 10, 0, []⟩ Ap cp)) := (Below.refl _ _).alloc (Nat.le_refl _) _
          have s11 := y11.size
          have V12 : ¬ growV (fun _ => False) wc w11 w11.heap.size := fun h => by rcases h with h | h; exact h; omega
          have y13 := y11.trans (y12.mono s11)
          have HI : Hid (PutI 2000 wc U9 x Ao co Ab cb w.heap.size w11.heap.size (w11.alloc (poO ⟨2000, 10, 0, []⟩ Ap cp)) A7 c7 es7 (growV (fun _ => False) wc w11) ⟨2000, 10, 0, []⟩ Ap cp) := Go.Lib.hid ⟨y13, M9.out.keep y13 M9.out.lt, (HA.out.row.keep y13).wide (Nat.zero_le _), HA.out.els, Bxo.made w11 42 (poL ⟨2000, 10, 0, []⟩ Ap cp), HP.out.at y12, V12, s11, by omega, fun g hg => by have := HA.out.row.block_ge g hg; omega, HSTW.out, by omega⟩
          clear HA HP y12 y13 s11 V12 M9 HSTW y11 HROW HELS HES M4 M2 x4 hec1 hec2 h126 bx9 bxw
          generalize growV (fun _ => False) wc w11 = V at *
          generalize w11.alloc (poO ⟨2000, 10, 0, []⟩ Ap cp) = W12 at *
          generalize w11.heap.size = bp at *
          go_upto_region 19 with fail
          go_loopw [11, 17] (fun s i wr => ∃ (A3 : Option Addr) (c3 : Nat) (es : List Ep) (Vr : Nat → Prop) (q : Po) (Aq : Option Addr) (cq k : Nat), s = .slice A3 es.length c3 ∧ i = .int .i64 k ∧ k + es.length ≤ 100000 ∧ PutI 2000 wc U9 x Ao co Ab cb w.heap.size bp wr A3 c3 es Vr q Aq cq) (fun s _ _ => lenOf s)
          case atStart => exact ⟨A7, c7, es7, V, ⟨2000, 10, 0, []⟩, Ap, cp, 0, rfl, rfl, by omega, HI.out⟩
          case round =>
            obtain ⟨A3, c3, es3, Vr, q, Aq, cq, i, rfl, rfl, hik, hI⟩ := hrel
            clear HI
            have HI := Go.Lib.hid hI
            clear hI
            by_cases hz : es3 = []
            · have hpl : q.list = [] := by subst hz; exact HI.out.st.done
              have d3 := HI.out.pbox.cell 3 rfl
              rw [hpl] at d3
              subst hz
              clear hpl
              go_wp2_with fail
              go_ret
              exact ⟨rfl, xB.out.trans (HI.out.below.mono xB.out.size)⟩
            · have hep : 0 < es3.length := List.length_pos_iff.2 hz
              clear hz
              have e0 : ((es3.length : Int) == 0) = false := by rw [beq_eq_false_iff_ne]; omega
              have q3 := HI.out.row.cap.1
              have q4 := HI.out.row.cap.2
              go_upto_if 76 with fail
              go_cut [18] (fun s wx => ∃ k : Nat, k < es3.length ∧ s = .int .i64 k ∧ wr = wx)
              case first =>
                by_cases hlt : i < l'.length
                · obtain ⟨ad, rfl, hv, hx⟩ := (HO.out.below (xB.out.trans (HI.out.below.mono xB.out.size))).at_ hlt
                  have j1 : (i : Int) < (l'.length : Int) := by omega
                  have hd0 : (0 : Int) ≤ (l'[i].toNat : Int) := by omega
                  have hd1 : (l'[i].toNat : Int) ≤ 255 := by have := l'[i].toNat_lt; omega
                  generalize l'[i].toNat = dn at *
                  have r1 : Int.tmod (dn : Int) (es3.length : Int) = ((dn % es3.length : Nat) : Int) := by rw [Int.tmod_eq_emod_of_nonneg (by omega)]; rfl
                  go_wp2_with fail
                  go_meet
                  exact ⟨dn % es3.length, Nat.mod_lt _ hep, rfl, rfl⟩
                · have j1 : ¬ (i : Int) < (l'.length : Int) := by omega
                  go_wp2_with fail
                  go_meet
                  exact ⟨0, hep, rfl, rfl⟩
              case rest =>
                obtain ⟨k, hk, rfl, rfl⟩ := hcut
                clear e0
                obtain ⟨ad3, rfl, HK3⟩ := HI.out.row.at_ hk
                have wle := HI.out.below.size
                have HXC : Hid (∀ Y, Below wr.heap.size wr Y → ∀ j v, (pkL es3[k].p es3[k].Ao es3[k].co es3[k].Ab es3[k].cb)[j]? = some v → Y.cell? ((ad3.add (k * 11)).add j) = some v) := Go.Lib.hid HK3
                have HX0 := Go.Lib.hid ((HI.out.cell hk).at HI.out.below)
                obtain ⟨xo, xb⟩ := HI.out.st.left hk
                obtain ⟨t, ht, hte, hto, hout, hst⟩ := HI.out.st.take hk
                have HTK := Go.Lib.hid ht
                have HTE := Go.Lib.hid hte
                have HTO := Go.Lib.hid hto
                have HOUT := Go.Lib.hid hout
                have HST := Go.Lib.hid hst
                have HSUB : Hid (∀ e ∈ es3.take k ++ es3.drop (k + 1), e ∈ es3) := Go.Lib.hid (fun e he => (List.mem_append.1 he).elim List.mem_of_mem_take List.mem_of_mem_drop)
                have HLEN : Hid ((es3.take k ++ es3.drop (k + 1)).length + 1 = es3.length) := Go.Lib.hid (by rw [List.length_append, List.length_take, List.length_drop]; omega)
                clear HK3 ht hte hto hout hst
                generalize es3[k] = e at *
                have hbl := HI.out.pbox.lt
                have hb0 := HI.out.b0
                obtain ⟨U, hU⟩ : ∃ U : Nat → Prop, U = fun b => Vr b ∨ U9 b := ⟨_, rfl⟩
                have HUlt : Hid (∀ b, U b → b < wr.heap.size) := Go.Lib.hid (by rw [hU]; exact fun b hb => hb.elim (HI.out.po.lt b) (fun h => Nat.lt_of_lt_of_le (HU9.out _ h) wle))
                have HUN : Hid (¬ U bp) := Go.Lib.hid (by rw [hU]; exact fun hb => hb.elim HI.out.out (fun h => by have := HU9.out _ h; omega))
                have HP : Hid (PoAt wr U q Aq cq) := Go.Lib.hid (HI.out.po.more (by rw [hU]; exact fun b h => .inl h) HUlt.out)
                have HX : Hid (PkAt wr U e.p e.Ao e.co e.Ab e.cb) := Go.Lib.hid (HX0.out.more (by rw [hU]; exact fun b h => .inr h) HUlt.out)
                have HB := Go.Lib.hid HI.out.pbox
                have HRT := Go.Lib.hid HI.out.st.right
                clear hU HX0
                have i1 : (0 : Int) ≤ (k : Int) := by omega
                have i2 : (k : Int) < (es3.length : Int) := by omega
                go_upto_region 24 with fail
                go_cut [19, 20, 21, 22] (fun a b c d wx => ∃ g9 g10 A' c' Ao' co' Ab' cb' U', a = .pointer (some ⟨g9, 0, none⟩) ∧ b = .pointer (some ⟨g10, 0, none⟩) ∧ c = .bool t.ok ∧ d = .int .i64 t.err ∧ TkD wr U t g9 g10 A' c' Ao' co' Ab' cb' U' wx)
                case first =>
                  try simp only [Act.put, List.setIfInBounds_toArray, List.set_cons_zero, List.set_cons_succ]
                  refine wp_region_held_drew (S := fun Y => Bxo Y bp 42 (poL q Aq cq) ∧ Below wr.heap.size wr Y) (by kernel_rfl) ?_ (fun hHeld => ?_)
                  · exact ⟨HB.out, below_drew (Below.refl _ _)⟩
                  have zd : wr.drew.heap.size ≤ wr.heap.size := Nat.le_refl _; have zd2 : wr.heap.size ≤ wr.drew.heap.size := Nat.le_refl _
                  have HP := Go.Lib.hid (HP.out.at (below_drew (Below.refl _ _)))
                  have HX := Go.Lib.hid (HX.out.at (below_drew (Below.refl _ _)))
                  have BL : Hid (Below wr.heap.size wr wr.drew) := Go.Lib.hid (below_drew (Below.refl _ _))
                  refine wpAnyH_take (i := 0) (oi := ⟨some 86, _, _, _, _, _⟩) (v := .agg (poL q Aq cq).toArray) rfl (by kernel_rfl) (by kernel_rfl) (by kernel_rfl) (fun _ _ _ h => h) (yieldsIf_load_at (by rfl) 42 _ rfl ⟨bp, 0, none⟩ rfl (poL q Aq cq) _ (fun Y h => h.1.at) Try.underlying42 rfl info_po) (by assumption) ?_
                  try simp only [Act.put, List.setIfInBounds_toArray, List.set_cons_zero, List.set_cons_succ]
                  refine wpAnyH_take (i := 1) (oi := ⟨some 87, _, _, _, _, _⟩) (v := ?_) rfl (by kernel_rfl) (by kernel_rfl) (by kernel_rfl) (fun _ _ _ h => h) (Or.inl ⟨by rfl, ?_⟩) (by assumption) ?_
                  rotate_left
                  · intro w hSw; (try dsimp only at hSw); go_simp; (try with_reducible rfl)
                  try simp only [Act.put, List.setIfInBounds_toArray, List.set_cons_zero, List.set_cons_succ]
                  refine wpAnyH_take (i := 2) (oi := ⟨some 88, _, _, _, _, _⟩) (v := ?_) rfl (by kernel_rfl) (by kernel_rfl) (by kernel_rfl) (fun _ _ _ h => h) (Or.inl ⟨by rfl, ?_⟩) (by assumption) ?_
                  rotate_left
                  · intro w hSw; (try dsimp only at hSw); go_simp; (try with_reducible rfl)
                  try simp only [Act.put, List.setIfInBounds_toArray, List.set_cons_zero, List.set_cons_succ]
                  refine wpAnyH_take (i := 3) (oi := ⟨some 89, _, _, _, _, _⟩) (v := ?_) rfl (by kernel_rfl) (by kernel_rfl) (by kernel_rfl) (fun _ _ _ h => h) (Or.inl ⟨by rfl, ?_⟩) (by assumption) ?_
                  rotate_left
                  · intro w hSw; (try dsimp only at hSw); go_simp; (try with_reducible rfl)
                  try simp only [Act.put, List.setIfInBounds_toArray, List.set_cons_zero, List.set_cons_succ]
                  refine wpAnyH_take (i := 4) (oi := ⟨some 90, _, _, _, _, _⟩) (v := ipV e.p e.Ao e.co e.Ab e.cb) rfl (by kernel_rfl) (by kernel_rfl) (by kernel_rfl) (fun _ _ _ h => h) (yieldsIf_pk (by rfl) _ rfl (ad3.add (k * 11)) rfl e.p e.Ao e.co e.Ab e.cb (fun Y h => HXC.out Y h.2)) (by assumption) ?_
                  try simp only [Act.put, List.setIfInBounds_toArray, List.set_cons_zero, List.set_cons_succ]
                  refine wpAnyH_ready (rs := [5, 11, 12]) (by kernel_rfl) (by simp) (AllReadyH.cons (o := ⟨some 91, _, _, _, _, _⟩) rfl (fun Kc hKc => ?_) (AllReadyH.cons (o := ⟨some 19, _, _, _, _, _⟩) rfl (fun Kc hKc => ?_) (AllReadyH.cons (o := ⟨some 20, _, _, _, _, _⟩) rfl (fun Kc hKc => ?_) AllReadyH.nil)))
                  ·
                    go_simp
                    go_at_call 17; refine (ctake q Aq cq e.p e.Ao e.co e.Ab e.cb _ _ t HTK.out HP.out HX.out HRT.out xo xb).mono ?_; rintro e7 w7 ⟨A7, c7, Ao7, co7, Ab7, cb7, rfl, hq, hk, y7⟩; have HQ := Go.Lib.hid hq; have HK := Go.Lib.hid hk; clear hq hk; have z7 := y7.size; dsimp only
                    have BL := Go.Lib.hid (BL.out.trans (y7.mono (by omega)))
                    refine hKc.out _ _ (⟨hHeld.1.keep y7 hHeld.1.lt, BL.out⟩) (fun hHeld => ?_)
                    clear hKc Kc
                    try simp only [Act.put, List.setIfInBounds_toArray, List.set_cons_zero, List.set_cons_succ]
                    refine wpAnyH_take (i := 6) (oi := ⟨some 85, _, _, _, _, _⟩) (v := ?_) rfl (by kernel_rfl) (by kernel_rfl) (by kernel_rfl) (fun _ _ _ h => h) (Or.inl ⟨by rfl, ?_⟩) (by assumption) ?_
                    rotate_left
                    · intro w hSw; (try dsimp only at hSw); go_simp; (try with_reducible rfl)
                    try simp only [Act.put, List.setIfInBounds_toArray, List.set_cons_zero, List.set_cons_succ]
                    refine wpAnyH_take (i := 7) (oi := ⟨some 92, _, _, _, _, _⟩) (v := ?_) rfl (by kernel_rfl) (by kernel_rfl) (by kernel_rfl) (fun _ _ _ h => h) (Or.inl ⟨by rfl, ?_⟩) (by assumption) ?_
                    rotate_left
                    · intro w hSw; (try dsimp only at hSw); go_simp; (try with_reducible rfl)
                    try simp only [Act.put, List.setIfInBounds_toArray, List.set_cons_zero, List.set_cons_succ]
                    refine wpAnyH_take (i := 8) (oi := ⟨some 93, _, _, _, _, _⟩) (v := ?_) rfl (by kernel_rfl) (by kernel_rfl) (by kernel_rfl) (fun _ _ _ h => h) (Or.inl ⟨by rfl, ?_⟩) (by assumption) ?_
                    rotate_left
                    · intro w hSw; (try dsimp only at hSw); go_simp; (try with_reducible rfl)
                    try simp only [Act.put, List.setIfInBounds_toArray, List.set_cons_zero, List.set_cons_succ]
                    refine wpAnyH_take (i := 9) (oi := ⟨some 94, _, _, _, _, _⟩) (v := ?_) rfl (by kernel_rfl) (by kernel_rfl) (by kernel_rfl) (fun _ _ _ h => h) (Or.inl ⟨by rfl, ?_⟩) (by assumption) ?_
                    rotate_left
                    · intro w hSw; (try dsimp only at hSw); go_simp; (try with_reducible rfl)
                    try simp only [Act.put, List.setIfInBounds_toArray, List.set_cons_zero, List.set_cons_succ]
                    refine wpAnyH_take (i := 10) (oi := ⟨some 95, _, _, _, _, _⟩) (v := ?_) rfl (by kernel_rfl) (by kernel_rfl) (by kernel_rfl) (fun _ _ _ h => h) (Or.inl ⟨by rfl, ?_⟩) (by assumption) ?_
                    rotate_left
                    · intro w hSw; (try dsimp only at hSw); go_simp; (try with_reducible rfl)
                    try simp only [Act.put, List.setIfInBounds_toArray, List.set_cons_zero, List.set_cons_succ]
                    refine wpAnyH_ready (rs := [11, 12]) (by kernel_rfl) (by simp) (AllReadyH.cons (o := ⟨some 19, _, _, _, _, _⟩) rfl (fun Kc hKc => ?_) (AllReadyH.cons (o := ⟨some 20, _, _, _, _, _⟩) rfl (fun Kc hKc => ?_) AllReadyH.nil))
                    ·
                      rw [if_pos (by rfl)]
                      refine step_alloc 42 rfl (poL po0 none 0) info_zpo ?_; intro g9 w9 e9 hb9 y9 z9
                      have HQ := Go.Lib.hid (HQ.out.at y9)
                      have HK := Go.Lib.hid (HK.out.at y9)
                      have BL := Go.Lib.hid (BL.out.trans (y9.mono (by omega)))
                      have F9 := Go.Lib.hid hb9; clear hb9
                      refine hKc.out _ _ (⟨hHeld.1.keep y9 hHeld.1.lt, BL.out⟩) (fun hHeld => ?_)
                      clear hKc Kc
                      try simp only [Act.put, List.setIfInBounds_toArray, List.set_cons_zero, List.set_cons_succ]
                      refine wpAnyH_ready (rs := [12]) (by kernel_rfl) (by simp) (AllReadyH.cons (o := ⟨some 20, _, _, _, _, _⟩) rfl (fun Kc hKc => ?_) AllReadyH.nil)
                      rw [if_pos (by rfl)]
                      refine step_alloc 25 rfl (pkL pk0 none 0 none 0) info_zpk ?_; intro g10 w10 e10 hb10 y10 z10
                      have HQ := Go.Lib.hid (HQ.out.at y10)
                      have HK := Go.Lib.hid (HK.out.at y10)
                      have F9 := Go.Lib.hid (F9.out.keep y10 F9.out.lt)
                      have BL := Go.Lib.hid (BL.out.trans (y10.mono (by omega)))
                      have F10 := Go.Lib.hid hb10; clear hb10
                      refine hKc.out _ _ (⟨hHeld.1.keep y10 hHeld.1.lt, BL.out⟩) (fun hHeld => ?_)
                      clear hKc Kc
                      try simp only [Act.put, List.setIfInBounds_toArray, List.set_cons_zero, List.set_cons_succ]
                      refine wpAnyH_ready (rs := [13]) (by kernel_rfl) (by simp) (AllReadyH.cons (o := ⟨none, _, _, _, _, _⟩) rfl (fun Kc hKc => ?_) AllReadyH.nil)
                      have HN9 : Hid (¬ growV U wr.drew w7 g9) := Go.Lib.hid (fun h => h.elim (fun k => by have := HUlt.out _ k; omega) (fun k => by omega))
                      have HN10 : Hid (¬ growV U wr.drew w7 g10) := Go.Lib.hid (fun h => h.elim (fun k => by have := HUlt.out _ k; omega) (fun k => by omega))
                      rw [if_pos (by rfl)]
                      refine step_store_whole 42 _ _ rfl g9 _ (poL t.pool A7 c7) rfl rfl F9.out info_po rfl (by simp [Value.oneCell']) ?_; intro v9 hb9 ho9; have F9 := Go.Lib.hid hb9; clear hb9; have zv9 := Nat.le_of_eq ho9.size; have zu9 := Nat.le_of_eq ho9.size.symm
                      have F10 := Go.Lib.hid (F10.out.only ho9 (by omega))
                      have HQ := Go.Lib.hid (HQ.out.only ho9 HN9.out); have HK := Go.Lib.hid (HK.out.only ho9 HN9.out)
                      have BL := Go.Lib.hid (BL.out.trans (ho9.below (by omega)))
                      refine hKc.out _ _ (⟨hHeld.1.only ho9 (by omega), BL.out⟩) (fun hHeld => ?_)
                      clear hKc Kc
                      try simp only [Act.put, List.setIfInBounds_toArray, List.set_cons_zero, List.set_cons_succ]
                      refine wpAnyH_ready (rs := [14]) (by kernel_rfl) (by simp) (AllReadyH.cons (o := ⟨none, _, _, _, _, _⟩) rfl (fun Kc hKc => ?_) AllReadyH.nil)
                      rw [if_pos (by rfl)]
                      refine step_store_whole 25 _ _ rfl g10 _ (pkL t.out Ao7 co7 Ab7 cb7) rfl rfl F10.out info_pk rfl (by simp [Value.oneCell']) ?_; intro v10 hb10 ho10; have F10 := Go.Lib.hid hb10; clear hb10; have zv10 := Nat.le_of_eq ho10.size; have zu10 := Nat.le_of_eq ho10.size.symm
                      have F9 := Go.Lib.hid (F9.out.only ho10 (by omega))
                      have HQ := Go.Lib.hid (HQ.out.only ho10 HN10.out); have HK := Go.Lib.hid (HK.out.only ho10 HN10.out)
                      have BL := Go.Lib.hid (BL.out.trans (ho10.below (by omega)))
                      refine hKc.out _ _ (⟨hHeld.1.only ho10 (by omega), BL.out⟩) (fun hHeld => ?_)
                      clear hKc Kc
                      try simp only [Act.put, List.setIfInBounds_toArray, List.set_cons_zero, List.set_cons_succ]
                      refine wpAnyH_take (i := 15) (oi := ⟨some 21, _, _, _, _, _⟩) (v := ?_) rfl (by kernel_rfl) (by kernel_rfl) (by kernel_rfl) (fun _ _ _ h => h) (Or.inl ⟨by rfl, ?_⟩) (by assumption) ?_
                      rotate_left
                      · intro w hSw; (try dsimp only at hSw); go_simp; (try with_reducible rfl)
                      try simp only [Act.put, List.setIfInBounds_toArray, List.set_cons_zero, List.set_cons_succ]
                      refine wpAnyH_take (i := 16) (oi := ⟨some 22, _, _, _, _, _⟩) (v := ?_) rfl (by kernel_rfl) (by kernel_rfl) (by kernel_rfl) (fun _ _ _ h => h) (Or.inl ⟨by rfl, ?_⟩) (by assumption) ?_
                      rotate_left
                      · intro w hSw; (try dsimp only at hSw); go_simp; (try with_reducible rfl)
                      try simp only [Act.put, List.setIfInBounds_toArray, List.set_cons_zero, List.set_cons_succ]
                      refine wpAnyH_done (by kernel_rfl) ?_ _
                      go_wp2_with fail
                      go_meet
                      exact ⟨g9, g10, A7, c7, Ao7, co7, Ab7, cb7, _, rfl, rfl, rfl, rfl, ⟨BL.out, F9.out, F10.out, HQ.out, HK.out, by omega, by omega, by omega, HN9.out, HN10.out, fun b hb => hb.elim .inl (fun k => .inr (by omega))⟩⟩
                    ·
                      rw [if_pos (by rfl)]
                      refine step_alloc 25 rfl (pkL pk0 none 0 none 0) info_zpk ?_; intro g10 w10 e10 hb10 y10 z10
                      have HQ := Go.Lib.hid (HQ.out.at y10)
                      have HK := Go.Lib.hid (HK.out.at y10)
                      have BL := Go.Lib.hid (BL.out.trans (y10.mono (by omega)))
                      have F10 := Go.Lib.hid hb10; clear hb10
                      refine hKc.out _ _ (⟨hHeld.1.keep y10 hHeld.1.lt, BL.out⟩) (fun hHeld => ?_)
                      clear hKc Kc
                      try simp only [Act.put, List.setIfInBounds_toArray, List.set_cons_zero, List.set_cons_succ]
                      refine wpAnyH_ready (rs := [11]) (by kernel_rfl) (by simp) (AllReadyH.cons (o := ⟨some 19, _, _, _, _, _⟩) rfl (fun Kc hKc => ?_) AllReadyH.nil)
                      rw [if_pos (by rfl)]
                      refine step_alloc 42 rfl (poL po0 none 0) info_zpo ?_; intro g9 w9 e9 hb9 y9 z9
                      have HQ := Go.Lib.hid (HQ.out.at y9)
                      have HK := Go.Lib.hid (HK.out.at y9)
                      have F10 := Go.Lib.hid (F10.out.keep y9 F10.out.lt)
                      have BL := Go.Lib.hid (BL.out.trans (y9.mono (by omega)))
                      have F9 := Go.Lib.hid hb9; clear hb9
                      refine hKc.out _ _ (⟨hHeld.1.keep y9 hHeld.1.lt, BL.out⟩) (fun hHeld => ?_)
                      clear hKc Kc
                      try simp only [Act.put, List.setIfInBounds_toArray, List.set_cons_zero, List.set_cons_succ]
                      refine wpAnyH_ready (rs := [13]) (by kernel_rfl) (by simp) (AllReadyH.cons (o := ⟨none, _, _, _, _, _⟩) rfl (fun Kc hKc => ?_) AllReadyH.nil)
                      have HN9 : Hid (¬ growV U wr.drew w7 g9) := Go.Lib.hid (fun h => h.elim (fun k => by have := HUlt.out _ k; omega) (fun k => by omega))
                      have HN10 : Hid (¬ growV U wr.drew w7 g10) := Go.Lib.hid (fun h => h.elim (fun k => by have := HUlt.out _ k; omega) (fun k => by omega))
                      rw [if_pos (by rfl)]
                      refine step_store_whole 42 _ _ rfl g9 _ (poL t.pool A7 c7) rfl rfl F9.out info_po rfl (by simp [Value.oneCell']) ?_; intro v9 hb9 ho9; have F9 := Go.Lib.hid hb9; clear hb9; have zv9 := Nat.le_of_eq ho9.size; have zu9 := Nat.le_of_eq ho9.size.symm
                      have F10 := Go.Lib.hid (F10.out.only ho9 (by omega))
                      have HQ := Go.Lib.hid (HQ.out.only ho9 HN9.out); have HK := Go.Lib.hid (HK.out.only ho9 HN9.out)
                      have BL := Go.Lib.hid (BL.out.trans (ho9.below (by omega)))
                      refine hKc.out _ _ (⟨hHeld.1.only ho9 (by omega), BL.out⟩) (fun hHeld => ?_)
                      clear hKc Kc
                      try simp only [Act.put, List.setIfInBounds_toArray, List.set_cons_zero, List.set_cons_succ]
                      refine wpAnyH_ready (rs := [14]) (by kernel_rfl) (by simp) (AllReadyH.cons (o := ⟨none, _, _, _, _, _⟩) rfl (fun Kc hKc => ?_) AllReadyH.nil)
                      rw [if_pos (by rfl)]
                      refine step_store_whole 25 _ _ rfl g10 _ (pkL t.out Ao7 co7 Ab7 cb7) rfl rfl F10.out info_pk rfl (by simp [Value.oneCell']) ?_; intro v10 hb10 ho10; have F10 := Go.Lib.hid hb10; clear hb10; have zv10 := Nat.le_of_eq ho10.size; have zu10 := Nat.le_of_eq ho10.size.symm
                      have F9 := Go.Lib.hid (F9.out.only ho10 (by omega))
                      have HQ := Go.Lib.hid (HQ.out.only ho10 HN10.out); have HK := Go.Lib.hid (HK.out.only ho10 HN10.out)
                      have BL := Go.Lib.hid (BL.out.trans (ho10.below (by omega)))
                      refine hKc.out _ _ (⟨hHeld.1.only ho10 (by omega), BL.out⟩) (fun hHeld => ?_)
                      clear hKc Kc
                      try simp only [Act.put, List.setIfInBounds_toArray, List.set_cons_zero, List.set_cons_succ]
                      refine wpAnyH_take (i := 15) (oi := ⟨some 21, _, _, _, _, _⟩) (v := ?_) rfl (by kernel_rfl) (by kernel_rfl) (by kernel_rfl) (fun _ _ _ h => h) (Or.inl ⟨by rfl, ?_⟩) (by assumption) ?_
                      rotate_left
                      · intro w hSw; (try dsimp only at hSw); go_simp; (try with_reducible rfl)
                      try simp only [Act.put, List.setIfInBounds_toArray, List.set_cons_zero, List.set_cons_succ]
                      refine wpAnyH_take (i := 16) (oi := ⟨some 22, _, _, _, _, _⟩) (v := ?_) rfl (by kernel_rfl) (by kernel_rfl) (by kernel_rfl) (fun _ _ _ h => h) (Or.inl ⟨by rfl, ?_⟩) (by assumption) ?_
                      rotate_left
                      · intro w hSw; (try dsimp only at hSw); go_simp; (try with_reducible rfl)
                      try simp only [Act.put, List.setIfInBounds_toArray, List.set_cons_zero, List.set_cons_succ]
                      refine wpAnyH_done (by kernel_rfl) ?_ _
                      go_wp2_with fail
                      go_meet
                      exact ⟨g9, g10, A7, c7, Ao7, co7, Ab7, cb7, _, rfl, rfl, rfl, rfl, ⟨BL.out, F9.out, F10.out, HQ.out, HK.out, by omega, by omega, by omega, HN9.out, HN10.out, fun b hb => hb.elim .inl (fun k => .inr (by omega))⟩⟩
                  ·
                    rw [if_pos (by rfl)]
                    refine step_alloc 42 rfl (poL po0 none 0) info_zpo ?_; intro g9 w9 e9 hb9 y9 z9
                    have HP := Go.Lib.hid (HP.out.at y9)
                    have HX := Go.Lib.hid (HX.out.at y9)
                    have BL := Go.Lib.hid (BL.out.trans (y9.mono (by omega)))
                    have F9 := Go.Lib.hid hb9; clear hb9
                    refine hKc.out _ _ (⟨hHeld.1.keep y9 hHeld.1.lt, BL.out⟩) (fun hHeld => ?_)
                    clear hKc Kc
                    try simp only [Act.put, List.setIfInBounds_toArray, List.set_cons_zero, List.set_cons_succ]
                    refine wpAnyH_ready (rs := [5, 12]) (by kernel_rfl) (by simp) (AllReadyH.cons (o := ⟨some 91, _, _, _, _, _⟩) rfl (fun Kc hKc => ?_) (AllReadyH.cons (o := ⟨some 20, _, _, _, _, _⟩) rfl (fun Kc hKc => ?_) AllReadyH.nil))
                    ·
                      go_simp
                      go_at_call 17; refine (ctake q Aq cq e.p e.Ao e.co e.Ab e.cb _ _ t HTK.out HP.out HX.out HRT.out xo xb).mono ?_; rintro e7 w7 ⟨A7, c7, Ao7, co7, Ab7, cb7, rfl, hq, hk, y7⟩; have HQ := Go.Lib.hid hq; have HK := Go.Lib.hid hk; clear hq hk; have z7 := y7.size; dsimp only
                      have F9 := Go.Lib.hid (F9.out.keep y7 F9.out.lt)
                      have BL := Go.Lib.hid (BL.out.trans (y7.mono (by omega)))
                      refine hKc.out _ _ (⟨hHeld.1.keep y7 hHeld.1.lt, BL.out⟩) (fun hHeld => ?_)
                      clear hKc Kc
                      try simp only [Act.put, List.setIfInBounds_toArray, List.set_cons_zero, List.set_cons_succ]
                      refine wpAnyH_take (i := 6) (oi := ⟨some 85, _, _, _, _, _⟩) (v := ?_) rfl (by kernel_rfl) (by kernel_rfl) (by kernel_rfl) (fun _ _ _ h => h) (Or.inl ⟨by rfl, ?_⟩) (by assumption) ?_
                      rotate_left
                      · intro w hSw; (try dsimp only at hSw); go_simp; (try with_reducible rfl)
                      try simp only [Act.put, List.setIfInBounds_toArray, List.set_cons_zero, List.set_cons_succ]
                      refine wpAnyH_take (i := 7) (oi := ⟨some 92, _, _, _, _, _⟩) (v := ?_) rfl (by kernel_rfl) (by kernel_rfl) (by kernel_rfl) (fun _ _ _ h => h) (Or.inl ⟨by rfl, ?_⟩) (by assumption) ?_
                      rotate_left
                      · intro w hSw; (try dsimp only at hSw); go_simp; (try with_reducible rfl)
                      try simp only [Act.put, List.setIfInBounds_toArray, List.set_cons_zero, List.set_cons_succ]
                      refine wpAnyH_take (i := 8) (oi := ⟨some 93, _, _, _, _, _⟩) (v := ?_) rfl (by kernel_rfl) (by kernel_rfl) (by kernel_rfl) (fun _ _ _ h => h) (Or.inl ⟨by rfl, ?_⟩) (by assumption) ?_
                      rotate_left
                      · intro w hSw; (try dsimp only at hSw); go_simp; (try with_reducible rfl)
                      try simp only [Act.put, List.setIfInBounds_toArray, List.set_cons_zero, List.set_cons_succ]
                      refine wpAnyH_take (i := 9) (oi := ⟨some 94, _, _, _, _, _⟩) (v := ?_) rfl (by kernel_rfl) (by kernel_rfl) (by kernel_rfl) (fun _ _ _ h => h) (Or.inl ⟨by rfl, ?_⟩) (by assumption) ?_
                      rotate_left
                      · intro w hSw; (try dsimp only at hSw); go_simp; (try with_reducible rfl)
                      try simp only [Act.put, List.setIfInBounds_toArray, List.set_cons_zero, List.set_cons_succ]
                      refine wpAnyH_take (i := 10) (oi := ⟨some 95, _, _, _, _, _⟩) (v := ?_) rfl (by kernel_rfl) (by kernel_rfl) (by kernel_rfl) (fun _ _ _ h => h) (Or.inl ⟨by rfl, ?_⟩) (by assumption) ?_
                      rotate_left
                      · intro w hSw; (try dsimp only at hSw); go_simp; (try with_reducible rfl)
                      try simp only [Act.put, List.setIfInBounds_toArray, List.set_cons_zero, List.set_cons_succ]
                      refine wpAnyH_ready (rs := [12]) (by kernel_rfl) (by simp) (AllReadyH.cons (o := ⟨some 20, _, _, _, _, _⟩) rfl (fun Kc hKc => ?_) AllReadyH.nil)
                      rw [if_pos (by rfl)]
                      refine step_alloc 25 rfl (pkL pk0 none 0 none 0) info_zpk ?_; intro g10 w10 e10 hb10 y10 z10
                      have F9 := Go.Lib.hid (F9.out.keep y10 F9.out.lt)
                      have HQ := Go.Lib.hid (HQ.out.at y10)
                      have HK := Go.Lib.hid (HK.out.at y10)
                      have BL := Go.Lib.hid (BL.out.trans (y10.mono (by omega)))
                      have F10 := Go.Lib.hid hb10; clear hb10
                      refine hKc.out _ _ (⟨hHeld.1.keep y10 hHeld.1.lt, BL.out⟩) (fun hHeld => ?_)
                      clear hKc Kc
                      try simp only [Act.put, List.setIfInBounds_toArray, List.set_cons_zero, List.set_cons_succ]
                      refine wpAnyH_ready (rs := [13]) (by kernel_rfl) (by simp) (AllReadyH.cons (o := ⟨none, _, _, _, _, _⟩) rfl (fun Kc hKc => ?_) AllReadyH.nil)
                      have HN9 : Hid (¬ growV U w9 w7 g9) := Go.Lib.hid (fun h => h.elim (fun k => by have := HUlt.out _ k; omega) (fun k => by omega))
                      have HN10 : Hid (¬ growV U w9 w7 g10) := Go.Lib.hid (fun h => h.elim (fun k => by have := HUlt.out _ k; omega) (fun k => by omega))
                      rw [if_pos (by rfl)]
                      refine step_store_whole 42 _ _ rfl g9 _ (poL t.pool A7 c7) rfl rfl F9.out info_po rfl (by simp [Value.oneCell']) ?_; intro v9 hb9 ho9; have F9 := Go.Lib.hid hb9; clear hb9; have zv9 := Nat.le_of_eq ho9.size; have zu9 := Nat.le_of_eq ho9.size.symm
                      have F10 := Go.Lib.hid (F10.out.only ho9 (by omega))
                      have HQ := Go.Lib.hid (HQ.out.only ho9 HN9.out); have HK := Go.Lib.hid (HK.out.only ho9 HN9.out)
                      have BL := Go.Lib.hid (BL.out.trans (ho9.below (by omega)))
                      refine hKc.out _ _ (⟨hHeld.1.only ho9 (by omega), BL.out⟩) (fun hHeld => ?_)
                      clear hKc Kc
                      try simp only [Act.put, List.setIfInBounds_toArray, List.set_cons_zero, List.set_cons_succ]
                      refine wpAnyH_ready (rs := [14]) (by kernel_rfl) (by simp) (AllReadyH.cons (o := ⟨none, _, _, _, _, _⟩) rfl (fun Kc hKc => ?_) AllReadyH.nil)
                      rw [if_pos (by rfl)]
                      refine step_store_whole 25 _ _ rfl g10 _ (pkL t.out Ao7 co7 Ab7 cb7) rfl rfl F10.out info_pk rfl (by simp [Value.oneCell']) ?_; intro v10 hb10 ho10; have F10 := Go.Lib.hid hb10; clear hb10; have zv10 := Nat.le_of_eq ho10.size; have zu10 := Nat.le_of_eq ho10.size.symm
                      have F9 := Go.Lib.hid (F9.out.only ho10 (by omega))
                      have HQ := Go.Lib.hid (HQ.out.only ho10 HN10.out); have HK := Go.Lib.hid (HK.out.only ho10 HN10.out)
                      have BL := Go.Lib.hid (BL.out.trans (ho10.below (by omega)))
                      refine hKc.out _ _ (⟨hHeld.1.only ho10 (by omega), BL.out⟩) (fun hHeld => ?_)
                      clear hKc Kc
                      try simp only [Act.put, List.setIfInBounds_toArray, List.set_cons_zero, List.set_cons_succ]
                      refine wpAnyH_take (i := 15) (oi := ⟨some 21, _, _, _, _, _⟩) (v := ?_) rfl (by kernel_rfl) (by kernel_rfl) (by kernel_rfl) (fun _ _ _ h => h) (Or.inl ⟨by rfl, ?_⟩) (by assumption) ?_
                      rotate_left
                      · intro w hSw; (try dsimp only at hSw); go_simp; (try with_reducible rfl)
                      try simp only [Act.put, List.setIfInBounds_toArray, List.set_cons_zero, List.set_cons_succ]
                      refine wpAnyH_take (i := 16) (oi := ⟨some 22, _, _, _, _, _⟩) (v := ?_) rfl (by kernel_rfl) (by kernel_rfl) (by kernel_rfl) (fun _ _ _ h => h) (Or.inl ⟨by rfl, ?_⟩) (by assumption) ?_
                      rotate_left
                      · intro w hSw; (try dsimp only at hSw); go_simp; (try with_reducible rfl)
                      try simp only [Act.put, List.setIfInBounds_toArray, List.set_cons_zero, List.set_cons_succ]
                      refine wpAnyH_done (by kernel_rfl) ?_ _
                      go_wp2_with fail
                      go_meet
                      exact ⟨g9, g10, A7, c7, Ao7, co7, Ab7, cb7, _, rfl, rfl, rfl, rfl, ⟨BL.out, F9.out, F10.out, HQ.out, HK.out, by omega, by omega, by omega, HN9.out, HN10.out, fun b hb => hb.elim .inl (fun k => .inr (by omega))⟩⟩
                    ·
                      rw [if_pos (by rfl)]
                      refine step_alloc 25 rfl (pkL pk0 none 0 none 0) info_zpk ?_; intro g10 w10 e10 hb10 y10 z10
                      have HP := Go.Lib.hid (HP.out.at y10)
                      have HX := Go.Lib.hid (HX.out.at y10)
                      have F9 := Go.Lib.hid (F9.out.keep y10 F9.out.lt)
                      have BL := Go.Lib.hid (BL.out.trans (y10.mono (by omega)))
                      have F10 := Go.Lib.hid hb10; clear hb10
                      refine hKc.out _ _ (⟨hHeld.1.keep y10 hHeld.1.lt, BL.out⟩) (fun hHeld => ?_)
                      clear hKc Kc
                      try simp only [Act.put, List.setIfInBounds_toArray, List.set_cons_zero, List.set_cons_succ]
                      refine wpAnyH_ready (rs := [5]) (by kernel_rfl) (by simp) (AllReadyH.cons (o := ⟨some 91, _, _, _, _, _⟩) rfl (fun Kc hKc => ?_) AllReadyH.nil)
                      go_simp
                      go_at_call 17; refine (ctake q Aq cq e.p e.Ao e.co e.Ab e.cb _ _ t HTK.out HP.out HX.out HRT.out xo xb).mono ?_; rintro e7 w7 ⟨A7, c7, Ao7, co7, Ab7, cb7, rfl, hq, hk, y7⟩; have HQ := Go.Lib.hid hq; have HK := Go.Lib.hid hk; clear hq hk; have z7 := y7.size; dsimp only
                      have F9 := Go.Lib.hid (F9.out.keep y7 F9.out.lt)
                      have F10 := Go.Lib.hid (F10.out.keep y7 F10.out.lt)
                      have BL := Go.Lib.hid (BL.out.trans (y7.mono (by omega)))
                      refine hKc.out _ _ (⟨hHeld.1.keep y7 hHeld.1.lt, BL.out⟩) (fun hHeld => ?_)
                      clear hKc Kc
                      try simp only [Act.put, List.setIfInBounds_toArray, List.set_cons_zero, List.set_cons_succ]
                      refine wpAnyH_take (i := 6) (oi := ⟨some 85, _, _, _, _, _⟩) (v := ?_) rfl (by kernel_rfl) (by kernel_rfl) (by kernel_rfl) (fun _ _ _ h => h) (Or.inl ⟨by rfl, ?_⟩) (by assumption) ?_
                      rotate_left
                      · intro w hSw; (try dsimp only at hSw); go_simp; (try with_reducible rfl)
                      try simp only [Act.put, List.setIfInBounds_toArray, List.set_cons_zero, List.set_cons_succ]
                      refine wpAnyH_take (i := 7) (oi := ⟨some 92, _, _, _, _, _⟩) (v := ?_) rfl (by kernel_rfl) (by kernel_rfl) (by kernel_rfl) (fun _ _ _ h => h) (Or.inl ⟨by rfl, ?_⟩) (by assumption) ?_
                      rotate_left
                      · intro w hSw; (try dsimp only at hSw); go_simp; (try with_reducible rfl)
                      try simp only [Act.put, List.setIfInBounds_toArray, List.set_cons_zero, List.set_cons_succ]
                      refine wpAnyH_take (i := 8) (oi := ⟨some 93, _, _, _, _, _⟩) (v := ?_) rfl (by kernel_rfl) (by kernel_rfl) (by kernel_rfl) (fun _ _ _ h => h) (Or.inl ⟨by rfl, ?_⟩) (by assumption) ?_
                      rotate_left
                      · intro w hSw; (try dsimp only at hSw); go_simp; (try with_reducible rfl)
                      try simp only [Act.put, List.setIfInBounds_toArray, List.set_cons_zero, List.set_cons_succ]
                      refine wpAnyH_take (i := 9) (oi := ⟨some 94, _, _, _, _, _⟩) (v := ?_) rfl (by kernel_rfl) (by kernel_rfl) (by kernel_rfl) (fun _ _ _ h => h) (Or.inl ⟨by rfl, ?_⟩) (by assumption) ?_
                      rotate_left
                      · intro w hSw; (try dsimp only at hSw); go_simp; (try with_reducible rfl)
                      try simp only [Act.put, List.setIfInBounds_toArray, List.set_cons_zero, List.set_cons_succ]
                      refine wpAnyH_take (i := 10) (oi := ⟨some 95, _, _, _, _, _⟩) (v := ?_) rfl (by kernel_rfl) (by kernel_rfl) (by kernel_rfl) (fun _ _ _ h => h) (Or.inl ⟨by rfl, ?_⟩) (by assumption) ?_
                      rotate_left
                      · intro w hSw; (try dsimp only at hSw); go_simp; (try with_reducible rfl)
                      try simp only [Act.put, List.setIfInBounds_toArray, List.set_cons_zero, List.set_cons_succ]
                      refine wpAnyH_ready (rs := [13]) (by kernel_rfl) (by simp) (AllReadyH.cons (o := ⟨none, _, _, _, _, _⟩) rfl (fun Kc hKc => ?_) AllReadyH.nil)
                      have HN9 : Hid (¬ growV U w10 w7 g9) := Go.Lib.hid (fun h => h.elim (fun k => by have := HUlt.out _ k; omega) (fun k => by omega))
                      have HN10 : Hid (¬ growV U w10 w7 g10) := Go.Lib.hid (fun h => h.elim (fun k => by have := HUlt.out _ k; omega) (fun k => by omega))
                      rw [if_pos (by rfl)]
                      refine step_store_whole 42 _ _ rfl g9 _ (poL t.pool A7 c7) rfl rfl F9.out info_po rfl (by simp [Value.oneCell']) ?_; intro v9 hb9 ho9; have F9 := Go.Lib.hid hb9; clear hb9; have zv9 := Nat.le_of_eq ho9.size; have zu9 := Nat.le_of_eq ho9.size.symm
                      have F10 := Go.Lib.hid (F10.out.only ho9 (by omega))
                      have HQ := Go.Lib.hid (HQ.out.only ho9 HN9.out); have HK := Go.Lib.hid (HK.out.only ho9 HN9.out)
                      have BL := Go.Lib.hid (BL.out.trans (ho9.below (by omega)))
                      refine hKc.out _ _ (⟨hHeld.1.only ho9 (by omega), BL.out⟩) (fun hHeld => ?_)
                      clear hKc Kc
                      try simp only [Act.put, List.setIfInBounds_toArray, List.set_cons_zero, List.set_cons_succ]
                      refine wpAnyH_ready (rs := [14]) (by kernel_rfl) (by simp) (AllReadyH.cons (o := ⟨none, _, _, _, _, _⟩) rfl (fun Kc hKc => ?_) AllReadyH.nil)
                      rw [if_pos (by rfl)]
                      refine step_store_whole 25 _ _ rfl g10 _ (pkL t.out Ao7 co7 Ab7 cb7) rfl rfl F10.out info_pk rfl (by simp [Value.oneCell']) ?_; intro v10 hb10 ho10; have F10 := Go.Lib.hid hb10; clear hb10; have zv10 := Nat.le_of_eq ho10.size; have zu10 := Nat.le_of_eq ho10.size.symm
                      have F9 := Go.Lib.hid (F9.out.only ho10 (by omega))
                      have HQ := Go.Lib.hid (HQ.out.only ho10 HN10.out); have HK := Go.Lib.hid (HK.out.only ho10 HN10.out)
                      have BL := Go.Lib.hid (BL.out.trans (ho10.below (by omega)))
                      refine hKc.out _ _ (⟨hHeld.1.only ho10 (by omega), BL.out⟩) (fun hHeld => ?_)
                      clear hKc Kc
                      try simp only [Act.put, List.setIfInBounds_toArray, List.set_cons_zero, List.set_cons_succ]
                      refine wpAnyH_take (i := 15) (oi := ⟨some 21, _, _, _, _, _⟩) (v := ?_) rfl (by kernel_rfl) (by kernel_rfl) (by kernel_rfl) (fun _ _ _ h => h) (Or.inl ⟨by rfl, ?_⟩) (by assumption) ?_
                      rotate_left
                      · intro w hSw; (try dsimp only at hSw); go_simp; (try with_reducible rfl)
                      try simp only [Act.put, List.setIfInBounds_toArray, List.set_cons_zero, List.set_cons_succ]
                      refine wpAnyH_take (i := 16) (oi := ⟨some 22, _, _, _, _, _⟩) (v := ?_) rfl (by kernel_rfl) (by kernel_rfl) (by kernel_rfl) (fun _ _ _ h => h) (Or.inl ⟨by rfl, ?_⟩) (by assumption) ?_
                      rotate_left
                      · intro w hSw; (try dsimp only at hSw); go_simp; (try with_reducible rfl)
                      try simp only [Act.put, List.setIfInBounds_toArray, List.set_cons_zero, List.set_cons_succ]
                      refine wpAnyH_done (by kernel_rfl) ?_ _
                      go_wp2_with fail
                      go_meet
                      exact ⟨g9, g10, A7, c7, Ao7, co7, Ab7, cb7, _, rfl, rfl, rfl, rfl, ⟨BL.out, F9.out, F10.out, HQ.out, HK.out, by omega, by omega, by omega, HN9.out, HN10.out, fun b hb => hb.elim .inl (fun k => .inr (by omega))⟩⟩
                  ·
                    rw [if_pos (by rfl)]
                    refine step_alloc 25 rfl (pkL pk0 none 0 none 0) info_zpk ?_; intro g10 w10 e10 hb10 y10 z10
                    have HP := Go.Lib.hid (HP.out.at y10)
                    have HX := Go.Lib.hid (HX.out.at y10)
                    have BL := Go.Lib.hid (BL.out.trans (y10.mono (by omega)))
                    have F10 := Go.Lib.hid hb10; clear hb10
                    refine hKc.out _ _ (⟨hHeld.1.keep y10 hHeld.1.lt, BL.out⟩) (fun hHeld => ?_)
                    clear hKc Kc
                    try simp only [Act.put, List.setIfInBounds_toArray, List.set_cons_zero, List.set_cons_succ]
                    refine wpAnyH_ready (rs := [5, 11]) (by kernel_rfl) (by simp) (AllReadyH.cons (o := ⟨some 91, _, _, _, _, _⟩) rfl (fun Kc hKc => ?_) (AllReadyH.cons (o := ⟨some 19, _, _, _, _, _⟩) rfl (fun Kc hKc => ?_) AllReadyH.nil))
                    ·
                      go_simp
                      go_at_call 17; refine (ctake q Aq cq e.p e.Ao e.co e.Ab e.cb _ _ t HTK.out HP.out HX.out HRT.out xo xb).mono ?_; rintro e7 w7 ⟨A7, c7, Ao7, co7, Ab7, cb7, rfl, hq, hk, y7⟩; have HQ := Go.Lib.hid hq; have HK := Go.Lib.hid hk; clear hq hk; have z7 := y7.size; dsimp only
                      have F10 := Go.Lib.hid (F10.out.keep y7 F10.out.lt)
                      have BL := Go.Lib.hid (BL.out.trans (y7.mono (by omega)))
                      refine hKc.out _ _ (⟨hHeld.1.keep y7 hHeld.1.lt, BL.out⟩) (fun hHeld => ?_)
                      clear hKc Kc
                      try simp only [Act.put, List.setIfInBounds_toArray, List.set_cons_zero, List.set_cons_succ]
                      refine wpAnyH_take (i := 6) (oi := ⟨some 85, _, _, _, _, _⟩) (v := ?_) rfl (by kernel_rfl) (by kernel_rfl) (by kernel_rfl) (fun _ _ _ h => h) (Or.inl ⟨by rfl, ?_⟩) (by assumption) ?_
                      rotate_left
                      · intro w hSw; (try dsimp only at hSw); go_simp; (try with_reducible rfl)
                      try simp only [Act.put, List.setIfInBounds_toArray, List.set_cons_zero, List.set_cons_succ]
                      refine wpAnyH_take (i := 7) (oi := ⟨some 92, _, _, _, _, _⟩) (v := ?_) rfl (by kernel_rfl) (by kernel_rfl) (by kernel_rfl) (fun _ _ _ h => h) (Or.inl ⟨by rfl, ?_⟩) (by assumption) ?_
                      rotate_left
                      · intro w hSw; (try dsimp only at hSw); go_simp; (try with_reducible rfl)
                      try simp only [Act.put, List.setIfInBounds_toArray, List.set_cons_zero, List.set_cons_succ]
                      refine wpAnyH_take (i := 8) (oi := ⟨some 93, _, _, _, _, _⟩) (v := ?_) rfl (by kernel_rfl) (by kernel_rfl) (by kernel_rfl) (fun _ _ _ h => h) (Or.inl ⟨by rfl, ?_⟩) (by assumption) ?_
                      rotate_left
                      · intro w hSw; (try dsimp only at hSw); go_simp; (try with_reducible rfl)
                      try simp only [Act.put, List.setIfInBounds_toArray, List.set_cons_zero, List.set_cons_succ]
                      refine wpAnyH_take (i := 9) (oi := ⟨some 94, _, _, _, _, _⟩) (v := ?_) rfl (by kernel_rfl) (by kernel_rfl) (by kernel_rfl) (fun _ _ _ h => h) (Or.inl ⟨by rfl, ?_⟩) (by assumption) ?_
                      rotate_left
                      · intro w hSw; (try dsimp only at hSw); go_simp; (try with_reducible rfl)
                      try simp only [Act.put, List.setIfInBounds_toArray, List.set_cons_zero, List.set_cons_succ]
                      refine wpAnyH_take (i := 10) (oi := ⟨some 95, _, _, _, _, _⟩) (v := ?_) rfl (by kernel_rfl) (by kernel_rfl) (by kernel_rfl) (fun _ _ _ h => h) (Or.inl ⟨by rfl, ?_⟩) (by assumption) ?_
                      rotate_left
                      · intro w hSw; (try dsimp only at hSw); go_simp; (try with_reducible rfl)
                      try simp only [Act.put, List.setIfInBounds_toArray, List.set_cons_zero, List.set_cons_succ]
                      refine wpAnyH_ready (rs := [11]) (by kernel_rfl) (by simp) (AllReadyH.cons (o := ⟨some 19, _, _, _, _, _⟩) rfl (fun Kc hKc => ?_) AllReadyH.nil)
                      rw [if_pos (by rfl)]
                      refine step_alloc 42 rfl (poL po0 none 0) info_zpo ?_; intro g9 w9 e9 hb9 y9 z9
                      have F10 := Go.Lib.hid (F10.out.keep y9 F10.out.lt)
                      have HQ := Go.Lib.hid (HQ.out.at y9)
                      have HK := Go.Lib.hid (HK.out.at y9)
                      have BL := Go.Lib.hid (BL.out.trans (y9.mono (by omega)))
                      have F9 := Go.Lib.hid hb9; clear hb9
                      refine hKc.out _ _ (⟨hHeld.1.keep y9 hHeld.1.lt, BL.out⟩) (fun hHeld => ?_)
                      clear hKc Kc
                      try simp only [Act.put, List.setIfInBounds_toArray, List.set_cons_zero, List.set_cons_succ]
                      refine wpAnyH_ready (rs := [13]) (by kernel_rfl) (by simp) (AllReadyH.cons (o := ⟨none, _, _, _, _, _⟩) rfl (fun Kc hKc => ?_) AllReadyH.nil)
                      have HN9 : Hid (¬ growV U w10 w7 g9) := Go.Lib.hid (fun h => h.elim (fun k => by have := HUlt.out _ k; omega) (fun k => by omega))
                      have HN10 : Hid (¬ growV U w10 w7 g10) := Go.Lib.hid (fun h => h.elim (fun k => by have := HUlt.out _ k; omega) (fun k => by omega))
                      rw [if_pos (by rfl)]
                      refine step_store_whole 42 _ _ rfl g9 _ (poL t.pool A7 c7) rfl rfl F9.out info_po rfl (by simp [Value.oneCell']) ?_; intro v9 hb9 ho9; have F9 := Go.Lib.hid hb9; clear hb9; have zv9 := Nat.le_of_eq ho9.size; have zu9 := Nat.le_of_eq ho9.size.symm
                      have F10 := Go.Lib.hid (F10.out.only ho9 (by omega))
                      have HQ := Go.Lib.hid (HQ.out.only ho9 HN9.out); have HK := Go.Lib.hid (HK.out.only ho9 HN9.out)
                      have BL := Go.Lib.hid (BL.out.trans (ho9.below (by omega)))
                      refine hKc.out _ _ (⟨hHeld.1.only ho9 (by omega), BL.out⟩) (fun hHeld => ?_)
                      clear hKc Kc
                      try simp only [Act.put, List.setIfInBounds_toArray, List.set_cons_zero, List.set_cons_succ]
                      refine wpAnyH_ready (rs := [14]) (by kernel_rfl) (by simp) (AllReadyH.cons (o := ⟨none, _, _, _, _, _⟩) rfl (fun Kc hKc => ?_) AllReadyH.nil)
                      rw [if_pos (by rfl)]
                      refine step_store_whole 25 _ _ rfl g10 _ (pkL t.out Ao7 co7 Ab7 cb7) rfl rfl F10.out info_pk rfl (by simp [Value.oneCell']) ?_; intro v10 hb10 ho10; have F10 := Go.Lib.hid hb10; clear hb10; have zv10 := Nat.le_of_eq ho10.size; have zu10 := Nat.le_of_eq ho10.size.symm
                      have F9 := Go.Lib.hid (F9.out.only ho10 (by omega))
                      have HQ := Go.Lib.hid (HQ.out.only ho10 HN10.out); have HK := Go.Lib.hid (HK.out.only ho10 HN10.out)
                      have BL := Go.Lib.hid (BL.out.trans (ho10.below (by omega)))
                      refine hKc.out _ _ (⟨hHeld.1.only ho10 (by omega), BL.out⟩) (fun hHeld => ?_)
                      clear hKc Kc
                      try simp only [Act.put, List.setIfInBounds_toArray, List.set_cons_zero, List.set_cons_succ]
                      refine wpAnyH_take (i := 15) (oi := ⟨some 21, _, _, _, _, _⟩) (v := ?_) rfl (by kernel_rfl) (by kernel_rfl) (by kernel_rfl) (fun _ _ _ h => h) (Or.inl ⟨by rfl, ?_⟩) (by assumption) ?_
                      rotate_left
                      · intro w hSw; (try dsimp only at hSw); go_simp; (try with_reducible rfl)
                      try simp only [Act.put, List.setIfInBounds_toArray, List.set_cons_zero, List.set_cons_succ]
                      refine wpAnyH_take (i := 16) (oi := ⟨some 22, _, _, _, _, _⟩) (v := ?_) rfl (by kernel_rfl) (by kernel_rfl) (by kernel_rfl) (fun _ _ _ h => h) (Or.inl ⟨by rfl, ?_⟩) (by assumption) ?_
                      rotate_left
                      · intro w hSw; (try dsimp only at hSw); go_simp; (try with_reducible rfl)
                      try simp only [Act.put, List.setIfInBounds_toArray, List.set_cons_zero, List.set_cons_succ]
                      refine wpAnyH_done (by kernel_rfl) ?_ _
                      go_wp2_with fail
                      go_meet
                      exact ⟨g9, g10, A7, c7, Ao7, co7, Ab7, cb7, _, rfl, rfl, rfl, rfl, ⟨BL.out, F9.out, F10.out, HQ.out, HK.out, by omega, by omega, by omega, HN9.out, HN10.out, fun b hb => hb.elim .inl (fun k => .inr (by omega))⟩⟩
                    ·
                      rw [if_pos (by rfl)]
                      refine step_alloc 42 rfl (poL po0 none 0) info_zpo ?_; intro g9 w9 e9 hb9 y9 z9
                      have HP := Go.Lib.hid (HP.out.at y9)
                      have HX := Go.Lib.hid (HX.out.at y9)
                      have F10 := Go.Lib.hid (F10.out.keep y9 F10.out.lt)
                      have BL := Go.Lib.hid (BL.out.trans (y9.mono (by omega)))
                      have F9 := Go.Lib.hid hb9; clear hb9
                      refine hKc.out _ _ (⟨hHeld.1.keep y9 hHeld.1.lt, BL.out⟩) (fun hHeld => ?_)
                      clear hKc Kc
                      try simp only [Act.put, List.setIfInBounds_toArray, List.set_cons_zero, List.set_cons_succ]
                      refine wpAnyH_ready (rs := [5]) (by kernel_rfl) (by simp) (AllReadyH.cons (o := ⟨some 91, _, _, _, _, _⟩) rfl (fun Kc hKc => ?_) AllReadyH.nil)
                      go_simp
                      go_at_call 17; refine (ctake q Aq cq e.p e.Ao e.co e.Ab e.cb _ _ t HTK.out HP.out HX.out HRT.out xo xb).mono ?_; rintro e7 w7 ⟨A7, c7, Ao7, co7, Ab7, cb7, rfl, hq, hk, y7⟩; have HQ := Go.Lib.hid hq; have HK := Go.Lib.hid hk; clear hq hk; have z7 := y7.size; dsimp only
                      have F10 := Go.Lib.hid (F10.out.keep y7 F10.out.lt)
                      have F9 := Go.Lib.hid (F9.out.keep y7 F9.out.lt)
                      have BL := Go.Lib.hid (BL.out.trans (y7.mono (by omega)))
                      refine hKc.out _ _ (⟨hHeld.1.keep y7 hHeld.1.lt, BL.out⟩) (fun hHeld => ?_)
                      clear hKc Kc
                      try simp only [Act.put, List.setIfInBounds_toArray, List.set_cons_zero, List.set_cons_succ]
                      refine wpAnyH_take (i := 6) (oi := ⟨some 85, _, _, _, _, _⟩) (v := ?_) rfl (by kernel_rfl) (by kernel_rfl) (by kernel_rfl) (fun _ _ _ h => h) (Or.inl ⟨by rfl, ?_⟩) (by assumption) ?_
                      rotate_left
                      · intro w hSw; (try dsimp only at hSw); go_simp; (try with_reducible rfl)
                      try simp only [Act.put, List.setIfInBounds_toArray, List.set_cons_zero, List.set_cons_succ]
                      refine wpAnyH_take (i := 7) (oi := ⟨some 92, _, _, _, _, _⟩) (v := ?_) rfl (by kernel_rfl) (by kernel_rfl) (by kernel_rfl) (fun _ _ _ h => h) (Or.inl ⟨by rfl, ?_⟩) (by assumption) ?_
                      rotate_left
                      · intro w hSw; (try dsimp only at hSw); go_simp; (try with_reducible rfl)
                      try simp only [Act.put, List.setIfInBounds_toArray, List.set_cons_zero, List.set_cons_succ]
                      refine wpAnyH_take (i := 8) (oi := ⟨some 93, _, _, _, _, _⟩) (v := ?_) rfl (by kernel_rfl) (by kernel_rfl) (by kernel_rfl) (fun _ _ _ h => h) (Or.inl ⟨by rfl, ?_⟩) (by assumption) ?_
                      rotate_left
                      · intro w hSw; (try dsimp only at hSw); go_simp; (try with_reducible rfl)
                      try simp only [Act.put, List.setIfInBounds_toArray, List.set_cons_zero, List.set_cons_succ]
                      refine wpAnyH_take (i := 9) (oi := ⟨some 94, _, _, _, _, _⟩) (v := ?_) rfl (by kernel_rfl) (by kernel_rfl) (by kernel_rfl) (fun _ _ _ h => h) (Or.inl ⟨by rfl, ?_⟩) (by assumption) ?_
                      rotate_left
                      · intro w hSw; (try dsimp only at hSw); go_simp; (try with_reducible rfl)
                      try simp only [Act.put, List.setIfInBounds_toArray, List.set_cons_zero, List.set_cons_succ]
                      refine wpAnyH_take (i := 10) (oi := ⟨some 95, _, _, _, _, _⟩) (v := ?_) rfl (by kernel_rfl) (by kernel_rfl) (by kernel_rfl) (fun _ _ _ h => h) (Or.inl ⟨by rfl, ?_⟩) (by assumption) ?_
                      rotate_left
                      · intro w hSw; (try dsimp only at hSw); go_simp; (try with_reducible rfl)
                      try simp only [Act.put, List.setIfInBounds_toArray, List.set_cons_zero, List.set_cons_succ]
                      refine wpAnyH_ready (rs := [13]) (by kernel_rfl) (by simp) (AllReadyH.cons (o := ⟨none, _, _, _, _, _⟩) rfl (fun Kc hKc => ?_) AllReadyH.nil)
                      have HN9 : Hid (¬ growV U w9 w7 g9) := Go.Lib.hid (fun h => h.elim (fun k => by have := HUlt.out _ k; omega) (fun k => by omega))
                      have HN10 : Hid (¬ growV U w9 w7 g10) := Go.Lib.hid (fun h => h.elim (fun k => by have := HUlt.out _ k; omega) (fun k => by omega))
                      rw [if_pos (by rfl)]
                      refine step_store_whole 42 _ _ rfl g9 _ (poL t.pool A7 c7) rfl rfl F9.out info_po rfl (by simp [Value.oneCell']) ?_; intro v9 hb9 ho9; have F9 := Go.Lib.hid hb9; clear hb9; have zv9 := Nat.le_of_eq ho9.size; have zu9 := Nat.le_of_eq ho9.size.symm
                      have F10 := Go.Lib.hid (F10.out.only ho9 (by omega))
                      have HQ := Go.Lib.hid (HQ.out.only ho9 HN9.out); have HK := Go.Lib.hid (HK.out.only ho9 HN9.out)
                      have BL := Go.Lib.hid (BL.out.trans (ho9.below (by omega)))
                      refine hKc.out _ _ (⟨hHeld.1.only ho9 (by omega), BL.out⟩) (fun hHeld => ?_)
                      clear hKc Kc
                      try simp only [Act.put, List.setIfInBounds_toArray, List.set_cons_zero, List.set_cons_succ]
                      refine wpAnyH_ready (rs := [14]) (by kernel_rfl) (by simp) (AllReadyH.cons (o := ⟨none, _, _, _, _, _⟩) rfl (fun Kc hKc => ?_) AllReadyH.nil)
                      rw [if_pos (by rfl)]
                      refine step_store_whole 25 _ _ rfl g10 _ (pkL t.out Ao7 co7 Ab7 cb7) rfl rfl F10.out info_pk rfl (by simp [Value.oneCell']) ?_; intro v10 hb10 ho10; have F10 := Go.Lib.hid hb10; clear hb10; have zv10 := Nat.le_of_eq ho10.size; have zu10 := Nat.le_of_eq ho10.size.symm
                      have F9 := Go.Lib.hid (F9.out.only ho10 (by omega))
                      have HQ := Go.Lib.hid (HQ.out.only ho10 HN10.out); have HK := Go.Lib.hid (HK.out.only ho10 HN10.out)
                      have BL := Go.Lib.hid (BL.out.trans (ho10.below (by omega)))
                      refine hKc.out _ _ (⟨hHeld.1.only ho10 (by omega), BL.out⟩) (fun hHeld => ?_)
                      clear hKc Kc
                      try simp only [Act.put, List.setIfInBounds_toArray, List.set_cons_zero, List.set_cons_succ]
                      refine wpAnyH_take (i := 15) (oi := ⟨some 21, _, _, _, _, _⟩) (v := ?_) rfl (by kernel_rfl) (by kernel_rfl) (by kernel_rfl) (fun _ _ _ h => h) (Or.inl ⟨by rfl, ?_⟩) (by assumption) ?_
                      rotate_left
                      · intro w hSw; (try dsimp only at hSw); go_simp; (try with_reducible rfl)
                      try simp only [Act.put, List.setIfInBounds_toArray, List.set_cons_zero, List.set_cons_succ]
                      refine wpAnyH_take (i := 16) (oi := ⟨some 22, _, _, _, _, _⟩) (v := ?_) rfl (by kernel_rfl) (by kernel_rfl) (by kernel_rfl) (fun _ _ _ h => h) (Or.inl ⟨by rfl, ?_⟩) (by assumption) ?_
                      rotate_left
                      · intro w hSw; (try dsimp only at hSw); go_simp; (try with_reducible rfl)
                      try simp only [Act.put, List.setIfInBounds_toArray, List.set_cons_zero, List.set_cons_succ]
                      refine wpAnyH_done (by kernel_rfl) ?_ _
                      go_wp2_with fail
                      go_meet
                      exact ⟨g9, g10, A7, c7, Ao7, co7, Ab7, cb7, _, rfl, rfl, rfl, rfl, ⟨BL.out, F9.out, F10.out, HQ.out, HK.out, by omega, by omega, by omega, HN9.out, HN10.out, fun b hb => hb.elim .inl (fun k => .inr (by omega))⟩⟩
                case rest =>
                  obtain ⟨g9, g10, A1, c1, Ao1, co1, Ab1, cb1, U1, rfl, rfl, rfl, rfl, hT⟩ := hcut
                  clear HXC HX HP HTK xo xb
                  have HT := Go.Lib.hid hT
                  have HBc := Go.Lib.hid (HB.out.keep hT.bel hbl)
                  have HN1 : Hid (¬ U1 bp) := Go.Lib.hid (fun h => (hT.up bp h).elim HUN.out (fun h => by omega))
                  have l9 := hT.l9
                  have l10 := hT.l10
                  have HRC := Go.Lib.hid (HI.out.row.keep hT.bel)
                  clear hT HUlt HUN HB HRT
                  go_upto_region 26 with (first
                    | (refine wpList_load_box rfl 42 _ rfl g9 rfl (poL t.pool A1 c1) _ HT.out.b9 Try.underlying42 rfl info_po ?_)
                    | (refine wpList_store_whole rfl 42 _ _ rfl bp _ (poL t.pool A1 c1) rfl rfl HBc.out info_po rfl (by simp [Value.oneCell']) ?_; intro w18 hb18 ho18; have HB18 := Go.Lib.hid hb18; clear hb18))
                  have HRW := Go.Lib.hid (HRC.out.only ho18 HI.out.ne)
                  have i3 : (0 : Int) ≤ (k : Int) + 1 := by omega
                  have i4 : (k : Int) + 1 ≤ (es3.length : Int) := by omega
                  have i5 : (k : Int) ≤ (c3 : Int) := by omega
                  have s1 : IntKind.i64.wrap ((k : Int) + 1) = (k : Int) + 1 := IntWalk.i64_in _ (by omega)
                  have HLT : Hid (((es3.take k).flatMap Ep.L).length = k * 11) := Go.Lib.hid (by rw [flatK_len, List.length_take, Nat.min_eq_left (by omega)])
                  have HLD : Hid (((es3.drop (k + 1)).flatMap Ep.L).length = (es3.length - (k + 1)) * 11) := Go.Lib.hid (by rw [flatK_len, List.length_drop])
                  obtain ⟨ad4, hif, had4⟩ := HRW.out.rdIf hk
                  have HAD := Go.Lib.hid had4
                  clear had4
                  obtain ⟨i0, hi, hz0, hz1, hz2⟩ := info_parts info_ipz
                  try simp only [Act.put, List.setIfInBounds_toArray, List.set_cons_zero, List.set_cons_succ]
                  refine wp_region_held_drew (S := fun Y => Below w18.heap.size w18 Y) (by kernel_rfl) ?_ (fun hHeld => ?_)
                  · exact below_drew (Below.refl _ _)
                  refine wpAnyH_take (i := 1) (oi := ⟨some 98, _, _, _, _, _⟩) (v := ?_) rfl (by kernel_rfl) (by kernel_rfl) (by kernel_rfl) (fun _ _ _ h => h) (Or.inl ⟨by rfl, ?_⟩) (by assumption) ?_
                  rotate_left
                  · intro w hSw; (try dsimp only at hSw); go_simp; (try with_reducible rfl)
                  try simp only [Act.put, List.setIfInBounds_toArray, List.set_cons_zero, List.set_cons_succ]
                  refine wpAnyH_take (i := 2) (oi := ⟨some 99, _, _, _, _, _⟩) (v := ?_) rfl (by kernel_rfl) (by kernel_rfl) (by kernel_rfl) (fun _ _ _ h => h) (Or.inl ⟨by rfl, ?_⟩) (by assumption) ?_
                  rotate_left
                  · intro w hSw; (try dsimp only at hSw); go_simp; (try with_reducible rfl)
                  try simp only [Act.put, List.setIfInBounds_toArray, List.set_cons_zero, List.set_cons_succ]
                  refine wpAnyH_take (i := 3) (oi := ⟨some 100, _, _, _, _, _⟩) (v := ?_) rfl (by kernel_rfl) (by kernel_rfl) (by kernel_rfl) (fun _ _ _ h => h) (Or.inl ⟨by rfl, ?_⟩) (by assumption) ?_
                  rotate_left
                  · intro w hSw; (try dsimp only at hSw); go_simp; (try with_reducible rfl)
                  try simp only [Act.put, List.setIfInBounds_toArray, List.set_cons_zero, List.set_cons_succ]
                  refine wpAnyH_take (i := 5) (oi := ⟨some 102, _, _, _, _, _⟩) (v := ?_) rfl (by kernel_rfl) (by kernel_rfl) (by kernel_rfl) (fun _ _ _ h => h) (Or.inl ⟨by rfl, ?_⟩) (by assumption) ?_
                  rotate_left
                  · intro w hSw; (try dsimp only at hSw); go_simp; (try with_reducible rfl)
                  try simp only [Act.put, List.setIfInBounds_toArray, List.set_cons_zero, List.set_cons_succ]
                  refine wpAnyH_take (i := 6) (oi := ⟨some 103, _, _, _, _, _⟩) (v := ?_) rfl (by kernel_rfl) (by kernel_rfl) (by kernel_rfl) (fun _ _ _ h => h) (Or.inl ⟨by rfl, ?_⟩) (by assumption) ?_
                  rotate_left
                  · intro w hSw; (try dsimp only at hSw); go_simp; (try with_reducible rfl)
                  try simp only [Act.put, List.setIfInBounds_toArray, List.set_cons_zero, List.set_cons_succ]
                  refine wpAnyH_take (i := 7) (oi := ⟨some 104, _, _, _, _, _⟩) (v := ?_) rfl (by kernel_rfl) (by kernel_rfl) (by kernel_rfl) (fun _ _ _ h => h) (Or.inl ⟨by rfl, ?_⟩) (by assumption) ?_
                  rotate_left
                  · intro w hSw; (try dsimp only at hSw); go_simp; (try with_reducible rfl)
                  try simp only [Act.put, List.setIfInBounds_toArray, List.set_cons_zero, List.set_cons_succ]
                  refine wpAnyH_take (i := 8) (oi := ⟨some 105, _, _, _, _, _⟩) (v := ?_) rfl (by kernel_rfl) (by kernel_rfl) (by kernel_rfl) (fun _ _ _ h => h) (Or.inl ⟨by rfl, ?_⟩) (by assumption) ?_
                  rotate_left
                  · intro w hSw; (try dsimp only at hSw); go_simp; (try with_reducible rfl)
                  try simp only [Act.put, List.setIfInBounds_toArray, List.set_cons_zero, List.set_cons_succ]
                  refine wpAnyH_ready (rs := [0]) (by kernel_rfl) (by simp) (AllReadyH.cons (o := ⟨some 97, _, _, _, _, _⟩) rfl (fun Kc hKc => ?_) AllReadyH.nil)
                  go_simp
                  have V20 : Hid (World.ownsRow (w18.alloc (.cells #[] 25)).drew w18.heap.size 25 11 (.slice (some ⟨w18.heap.size, 0, none⟩) 0 0) 0 []) := Go.Lib.hid (World.ownsRow_made w18 #[] 0 (Nat.le_refl _) (by unfold maxLen; omega) (by simp)); have y20 : Below w18.heap.size w18 (w18.alloc (.cells #[] 25)).drew := below_drew ((Below.refl _ _).alloc (Nat.le_refl _) _); have HR20 := Go.Lib.hid (HRW.out.keep y20); generalize (w18.alloc (.cells #[] 25)).drew = w20 at *; have z20 := y20.size
                  refine hKc.out _ _ (y20) (fun hHeld => ?_)
                  clear hKc Kc
                  try simp only [Act.put, List.setIfInBounds_toArray, List.set_cons_zero, List.set_cons_succ]
                  refine wpAnyH_ready (rs := [4]) (by kernel_rfl) (by simp) (AllReadyH.cons (o := ⟨some 101, _, _, _, _, _⟩) rfl (fun Kc hKc => ?_) AllReadyH.nil)
                  rw [if_pos (by rfl)]
                  refine step_append_own _ _ 28 rfl w18.heap.size 25 i0 _ 11 104 Try.underlying28 hi hz0 hz1 hz2 rfl (by omega) (.slice (some ⟨w18.heap.size, 0, none⟩) 0 0) 0 [] rfl V20.out ad3 k c3 ((es3.take k).flatMap Ep.L) rfl HLT.out (HR20.out.rdFst k) (ep_one _) (by unfold maxLen; omega) (by omega) z20 ?_; intro v21 w21 ho21 hg21 hat21; obtain ⟨A21, c21, rfl⟩ := own_slice ho21; have y21 := y20.trans (grown_own hg21 (fun g e => by rw [ownBlock_blk] at e; injection e with e; have e : w18.heap.size = g := e; omega) z20); have HO21 := Go.Lib.hid ho21; clear ho21 hg21 hat21; have z21 := y21.size
                  refine hKc.out _ _ (y21) (fun hHeld => ?_)
                  clear hKc Kc
                  try simp only [Act.put, List.setIfInBounds_toArray, List.set_cons_zero, List.set_cons_succ]
                  refine wpAnyH_ready (rs := [9]) (by kernel_rfl) (by simp) (AllReadyH.cons (o := ⟨some 106, _, _, _, _, _⟩) rfl (fun Kc hKc => ?_) AllReadyH.nil)
                  rw [if_pos (by rfl)]
                  (try rw [hif]); refine step_append_own _ _ 28 rfl w18.heap.size 25 i0 _ 11 104 Try.underlying28 hi hz0 hz1 hz2 rfl (by omega) (.slice A21 (0 + k) c21) (0 + k) ([] ++ (es3.take k).flatMap Ep.L) rfl HO21.out ad4 (es3.length - (k + 1)) (c3 - (k + 1)) ((es3.drop (k + 1)).flatMap Ep.L) rfl HLD.out (HAD.out w21 y21) (ep_one _) (by unfold maxLen; omega) (by omega) z21 ?_; intro v22 w22 ho22 hg22 hat22; obtain ⟨A22, c22, rfl⟩ := own_slice ho22; have y22 := y21.trans (grown_own hg22 (fun g e => by rw [ownBlock_blk] at e; rcases own_addr HO21.out with ⟨hn, _⟩ | ⟨g2, hg2, h1, h2⟩; rw [hn] at e; cases e; rw [hg2] at e; injection e with e; have e : g2 = g := e; omega) z21); have HO22 : Hid (OwnK w22 w18.heap.size A22 c22 (es3.take k ++ es3.drop (k + 1))) := Go.Lib.hid (own_rest (by omega) ho22); clear ho22 hg22 hat22
                  refine hKc.out _ _ (y22) (fun hHeld => ?_)
                  clear hKc Kc
                  try simp only [Act.put, List.setIfInBounds_toArray, List.set_cons_zero, List.set_cons_succ]
                  refine wpAnyH_take (i := 10) (oi := ⟨some 11, _, _, _, _, _⟩) (v := ?_) rfl (by kernel_rfl) (by kernel_rfl) (by kernel_rfl) (fun _ _ _ h => h) (Or.inl ⟨by rfl, ?_⟩) (by assumption) ?_
                  rotate_left
                  · intro w hSw; (try dsimp only at hSw); go_simp; (try with_reducible rfl)
                  try simp only [Act.put, List.setIfInBounds_toArray, List.set_cons_zero, List.set_cons_succ]
                  refine wpAnyH_done (by kernel_rfl) ?_ _
                  have hlx : 0 + k + (es3.length - (k + 1)) = (es3.take k ++ es3.drop (k + 1)).length := by have := HLEN.out; omega
                  have hly : k + (es3.length - (k + 1)) = (es3.take k ++ es3.drop (k + 1)).length := by have := HLEN.out; omega
                  (try rw [hlx])
                  rw [hly]
                  clear hlx hly
                  have sw : wr.heap.size ≤ w18.heap.size := by have := HT.out.bel.size; have := ho18.size; omega
                  have HI2 := Go.Lib.hid (HI.out.put HT.out.bel HT.out.po HN1.out ho18 HB18.out y22 HO22.out sw HSUB.out (by have := HLEN.out; omega) HST.out)
                  have HB10 := Go.Lib.hid ((HT.out.b10.only ho18 (show g10 ≠ bp by omega)).keep y22 (by have := HT.out.b10.lt; have := ho18.size; omega))
                  have HPT := Go.Lib.hid ((HT.out.pk.only ho18 HN1.out).at y22)
                  have HPX := Go.Lib.hid (HPK.out.at (xB.out.trans (HI2.out.below.mono xB.out.size)))
                  clear hHeld HI HT HN1 HB18 HO22 HSUB HST HBc HRC HRW V20 HR20 HO21 HLT HLD HAD y20 y21 y22 z20 z21 hi hz0 hz1 hz2 ho18 sw hif i1 i2 i3 i4 i5 s1
                  have HLE : Hid ((es3.take k ++ es3.drop (k + 1)).length < es3.length) := Go.Lib.hid (by have := HLEN.out; omega)
                  clear HLEN
                  generalize es3.take k ++ es3.drop (k + 1) = es4 at *
                  have HE0 : (t.err != 0) = false := by rw [HTE.out]; rfl
                  have hle := HLE.out
                  have hfew := HI2.out.few
                  cases hok : t.ok
                  · have h4 : es4 ≠ [] := fun h => by have := HTO.out; rw [hok, h] at this; cases this
                    have h4p : 0 < es4.length := List.length_pos_iff.2 h4
                    have e1 : ((es4.length : Int) == 0) = false := by rw [beq_eq_false_iff_ne]; omega
                    clear h4
                    go_wp2_with fail
                    go_round
                    case rel => exact ⟨A22, c22, es4, U1, t.pool, A1, c1, i + 1, rfl, by go_num, by omega, HI2.out⟩
                    case measure => simp [lenOf]; omega
                  · have h4 : es4 = [] := by have := HTO.out; rw [hok] at this; exact List.isEmpty_iff.1 this.symm
                    have hox := HOUT.out hok
                    rw [hox] at HB10 HPT
                    clear hox
                    subst h4
                    go_wp2_with (first
                      | (refine wpList_load_box rfl 25 _ rfl g10 rfl (pkL x Ao1 co1 Ab1 cb1) _ HB10.out Try.underlying25 rfl info_pk ?_)
                      | (refine wpList_load_box rfl 25 _ rfl w.heap.size rfl (pkL x Ao co Ab cb) _ HI2.out.box Try.underlying25 rfl info_pk ?_)
                      | (go_at_call 14; refine (csame9 x Ao1 co1 Ab1 cb1 Ao co Ab cb w22 HPT.out.obs HPT.out.bbs HPX.out.obs HPX.out.bbs).mono ?_; rintro e w23 ⟨rfl, y23⟩; have HI3 := Go.Lib.hid (HI2.out.step y23); dsimp only))
                    go_round
                    case rel => exact ⟨A22, c22, [], U1, t.pool, A1, c1, i + 1, rfl, by go_num, by simp at hle ⊢; omega, HI3.out⟩
                    case measure => simp [lenOf]; omega
      · have hne : (err != 0) = true := by simpa using h0
        clear h0
        go_wp2_with fail
        go_ret
        exact ⟨rfl, x4⟩
    · have g1 : (1000 : Int) < (x.body.length : Int) := by omega
      go_wp2_with (first
        | (refine wpList_load_box rfl 25 _ rfl w.heap.size rfl (pkL x Ao co Ab cb) _ M1.out Try.underlying25 rfl info_pk ?_)
        | (go_at_call 8; refine (rshort x Ao co Ab cb w1).mono ?_; rintro e w2 ⟨rfl, y2⟩; rw [HSB.out]; have M2 := Go.Lib.hid (M1.out.keep y2 M1.out.lt); have x2 := x1.trans (y2.mono x1.size); have d10' := M2.out.cell 10 rfl; clear y2; dsimp only))
      go_ret
      exact ⟨rfl, x2⟩
end Go.Proofs.Ytmblkgnjcmneeaa
