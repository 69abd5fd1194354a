/- Lemmas, several texts in one. -/
import Derived.Test.YtmblkgnjcmneeaaQ08
import Derived.Test.YtmblkgnjcmneeaaQ09
import Derived.Test.YtmblkgnjcmneeaaQ06
import Derived.Test.YtmblkgnjcmneeaaQ02
import Derived.Test.YtmblkgnjcmneeaaQ07
/- The contract of package reasm's copyPool. -/
namespace Go.Proofs.Ytmblkgnjcmneeaa
open Go.ChangeShapes Go.WideShapes Go.ChangeAt Go.RowKit
set_option linter.unusedVariables false
set_option linter.unusedSimpArgs false

/-- nothing in it is too long to be copied. -/
structure SmallP (p : Po) : Prop where
  list : p.list.length ≤ 16777216
  opts : ∀ b ∈ p.list, b.head.opts.length ≤ 16777216
  body : ∀ b ∈ p.list, b.head.body.length ≤ 16777216
  runs : ∀ b ∈ p.list, b.runs.length ≤ 16777216
  some : ∀ b ∈ p.list, b.runs ≠ []
  data : ∀ b ∈ p.list, ∀ r ∈ b.runs, r.data.length ≤ 16777216
/-- ahead of run j: the row of runs is the call's own, its bytes in E or made since w8. -/
structure InI (b : Bf) (w8 : World) (gR c7 base : Nat) (E : Nat → Prop) (wx : World) (rs : List Er) : Prop where
  row : OwnR wx base (some ⟨gR, 0, none⟩) c7 rs
  map : rs.map Er.r = b.runs
  data : ∀ r ∈ rs, ByIn wx (growV E w8 wx) r.A r.c r.r.data
  gro : Gro gR w8 wx
theorem er_set (rs : List Er) (j : Nat) (hj : j < rs.length) (A' : Option Addr) (c' : Nat) : spl (rs.flatMap Er.L) (j * 2 + 1) [.slice A' rs[j].r.data.length c'] = (rs.set j ⟨rs[j].r, A', c'⟩).flatMap Er.L := by
  rw [← spl_flat Er.L 2 Er.len rs j ⟨rs[j].r, A', c'⟩ hj]
  show spl _ _ _ = spl ((rs.flatMap Er.L).set (j * 2) (.int .i64 rs[j].r.off)) (j * 2 + 1) [_]
  have h0 := flat_get Er.L 2 Er.len rs j 0 hj (by omega)
  rw [Nat.add_zero] at h0
  obtain ⟨hlt, he⟩ := List.getElem?_eq_some_iff.1 (h0.trans (show (rs[j].L)[0]? = some (.int .i64 rs[j].r.off) from rfl))
  rw [← he, List.set_getElem_self]
theorem InI.next {b : Bf} {w8 wx W10 wc w11 w12 : World} {gR c7 base : Nat} {E : Nat → Prop} {rs : List Er} {j : Nat} {r : Rn} {A11 : Option Addr} {c11 : Nat} (h : InI b w8 gR c7 base E wx rs) (hj : j < rs.length)
    (hm : (rs.set j ⟨r, A11, c11⟩).map Er.r = b.runs) (hrow : w12.ownsRow base 89 2 (.slice (some ⟨gR, 0, none⟩) rs.length c7) rs.length ((rs.set j ⟨r, A11, c11⟩).flatMap Er.L)) (y10 : Below wx.heap.size wx W10) (hg : Gro gR W10 w12)
    (hE : ∀ x, E x → x ≠ gR ∧ x < w8.heap.size) (hR : gR < w8.heap.size) (hb : ByIn w11 (growV (growV E w8 wx) wc w11) A11 c11 r.data) (ho : Only gR w11 w12) (hf : ∀ ad, A11 = some ad → wc.heap.size ≤ ad.block) (hwc : wx.heap.size ≤ wc.heap.size) : InI b w8 gR c7 base E w12 (rs.set j ⟨r, A11, c11⟩) := by
  have z0 := h.gro.size
  have z1 := y10.size
  have z2 := hg.size
  have z3 := ho.size
  refine ⟨by unfold OwnR; rw [List.length_set]; exact hrow, hm, fun r' hr' => ?_, (h.gro.trans (gro_below y10)).trans hg⟩
  rcases List.mem_or_eq_of_mem_set hr' with hr' | rfl
  · refine ((h.data r' hr').keepH (w' := w12) (fun x hx => ?_)).more (fun x hx => ?_)
    · have hx' : x ≠ gR ∧ x < wx.heap.size := by
        rcases hx with hx | hx
        · have := hE x hx; omega
        · omega
      exact (hg.block x (by omega) hx'.1).trans (y10.block x hx'.2)
    · rcases hx with hx | hx
      · exact .inl hx
      · exact .inr (by omega)
  · refine (hb.keepH (w' := w12) (fun x hx => ho.block x ?_)).more (fun x hx => ?_)
    · rcases hx with hx | hx
      · rcases hx with hx | hx
        · exact (hE x hx).1
        · omega
      · omega
    · rcases hx with hx | hx
      · rcases hx with hx | hx
        · exact .inl hx
        · exact .inr (by omega)
      · exact .inr (by omega)
set_option maxRecDepth 100000 in
set_option maxHeartbeats 8000000 in
theorem ccopyPool (p : Po) (A : Option Addr) (c : Nat) (w : World) (V : Nat → Prop) (hP : PoAt w V p A c) (hS : SmallP p) :
    Calls Try.prog 27 #[poV p A c] w fun e w' => ∃ A' c', e = .returned (poV p A' c') ∧ PoOwn w V w' p A' c' ∧ Below w.heap.size w w' := by
  have HV := Go.Lib.hid hP.lt
  have HSM := Go.Lib.hid hS
  have y0 : Below w.heap.size w ((w.alloc (oPo p A c)).alloc (oPo po0 none 0)) := below_alloc (below_alloc (Below.refl _ _) (Nat.le_refl _) _) (by simp) _
  have h1 := (Bxo.made w 42 (poL p A c)).alloc (oPo po0 none 0)
  have h2 : Bxo ((w.alloc (oPo p A c)).alloc (oPo po0 none 0)) (w.heap.size + 1) 42 (poL po0 none 0) := by
    have := Bxo.made (w.alloc (oPo p A c)) 42 (poL po0 none 0)
    simpa using this
  have hz : ((w.alloc (oPo p A c)).alloc (oPo po0 none 0)).heap.size = w.heap.size + 2 := by simp
  have hPo := hP.at y0
  have pc1 := hP.is.len
  have pc2 := hP.is.cap
  have pn := hP.is.nil
  clear hP hS
  go_enter Try.func27, Try.ntmps27
  go_upto_region 1 with fail
  generalize ((w.alloc (oPo p A c)).alloc (oPo po0 none 0)) = W at *
  obtain ⟨es0, hm0, hr0, hb0⟩ := hPo.is.fs.els hPo.lt
  have hlen0 : es0.length = p.list.length := by rw [← hm0, List.length_map]
  have H1 := Go.Lib.hid h1
  have H2 := Go.Lib.hid h2
  have PN := Go.Lib.hid pn
  have HR0 := Go.Lib.hid hr0
  have HB0 := Go.Lib.hid hb0
  have HM0 := Go.Lib.hid hm0
  have HF0 : Hid ((es0.flatMap El.L).length = p.list.length * 19) := Go.Lib.hid (by rw [flat_len El.L 19 El.len, hlen0])
  have HPo := Go.Lib.hid hPo
  have HLN := Go.Lib.hid hlen0
  clear h1 h2 hr0 hb0 hPo hm0 hlen0 pn
  have c3 := H1.out.cell 3 rfl
  go_upto_region 2 with (first
    | (go_at_call 52; refine (ccloneB A _ c (es0.flatMap El.L) _ HF0.out HR0.out (el_one _) HSM.out.list PN.out pc1).mono ?_; rintro e w2 ⟨A1, c1, rfl, ho1, y2⟩; have HO1 := Go.Lib.hid ho1; have K2 := Go.Lib.hid (H1.out.keep y2 (by omega)); have K2z := Go.Lib.hid (H2.out.keep y2 (by omega)); dsimp only)
    | (refine wpList_store_any rfl 40 _ _ rfl w.heap.size 3 42 _ [.slice A1 p.list.length c1] _ rfl rfl rfl K2.out info_sb (by show 3 + 1 ≤ 4; omega) (by simp [Value.oneCell']) ?_; intro w3 hb3 ho3; have K3 : Hid (Bxo w3 w.heap.size 42 [.int .i64 p.room, .int .i64 p.life, .int .i64 p.now, .slice A1 p.list.length c1]) := Go.Lib.hid hb3; clear hb3))
  have z2 := y2.size
  have HI0 : Hid (CpI w V p A1 c1 w3 0 es0 V) := Go.Lib.hid ⟨(y0.trans (y2.mono (by omega))).trans (ho3.below (Nat.le_refl _)), K3.out, K2z.out.only ho3 (by omega), HM0.out,
    by
      have h := HO1.out
      have h3 := own_keepA h (w' := w3) (fun g hg => ho3.block g (fun e => by
        subst e
        rcases own_addr h with ⟨hn, _⟩ | ⟨g2, hg2, h1, h2⟩
        · rw [hn] at hg; cases hg
        · rw [hg2] at hg; injection hg with hg; have hg : g2 = w.heap.size := hg; omega))
      unfold OwnB
      rw [HLN.out]
      exact own_base h3 (by omega),
    fun j e hj => by omega, fun j e hj he => by
      have h := HB0.out e (List.mem_of_getElem? he)
      have h3 : ∀ b, V b → w3.heap[b]? = W.heap[b]? := fun b hb => (ho3.block b (fun e => by subst e; exact Nat.lt_irrefl _ (HV.out _ hb))).trans (y2.block b (HPo.out.lt b hb))
      have k1 : KeepV V W w3 := fun q hq => World.cell?_of_block (h3 _ hq)
      exact ⟨h.s0, h.s1, h.d0, h.d1, h.hs0, h.hs1, h.hd0, h.hd1, h.o.keep k1, h.bo.keep k1, h.rlen, h.rcap, h.rnil, h.runs.keep k1, fun b hb => by have := h.lt b hb; have := ho3.size; omega⟩,
    fun g hg hv => by
      rcases own_addr HO1.out with ⟨hn, _⟩ | ⟨g2, hg2, h1, h2⟩
      · rw [hn] at hg; cases hg
      · rw [hg2] at hg; injection hg with hg; have hg : g2 = g := hg; have := HPo.out.lt g hv; omega,
    fun j e hj => by omega, fun i j e f hij hj => by omega, fun b hb => .inl hb, fun b hb => hb⟩
  clear HO1 K2 K2z K3 H1 H2 HR0 HB0 HF0 HLN HM0 y2 ho3 z2 y0 c3 HPo
  have c3 := HI0.out.box.cell 3 rfl
  have LC := own_cap HI0.out.row
  rw [show es0.length = p.list.length by rw [← HI0.out.map, List.length_map]] at LC
  unfold maxLen at LC
  obtain ⟨lc1, lc2⟩ := LC
  go_wp2
  clear c3
  go_loopw [14] (fun i wr => ∃ (k : Nat) (es : List El) (D : Nat → Prop), k ≤ p.list.length ∧ i = .int .i64 k ∧ CpI w V p A1 c1 wr k es D) (fun i _ => p.list.length - (intOf i).toNat)
  case atStart => exact ⟨0, es0, V, by omega, rfl, HI0.out⟩
  case round =>
    rename World => wo
    obtain ⟨k, es, D, hk, rfl, hI⟩ := hrel
    clear HI0
    have hlen : es.length = p.list.length := by rw [← hI.map, List.length_map]
    by_cases hlt : k < p.list.length
    · have hke : k < es.length := by omega
      obtain ⟨gL, hA1, hL1, hL2⟩ := (own_addr hI.row).resolve_left (by rintro ⟨_, h, _⟩; omega)
      subst hA1
      have HI := Go.Lib.hid hI
      have HC := Go.Lib.hid (bf_cells hI.row k hke)
      have HRAW := Go.Lib.hid (hI.raw k _ (Nat.le_refl _) (List.getElem?_eq_getElem hke))
      have HMEM : Hid (es[k].b ∈ p.list) := Go.Lib.hid (by rw [← hI.map]; exact List.mem_map_of_mem (List.getElem_mem hke))
      have HEK : Hid (es[k]? = some es[k]) := Go.Lib.hid (List.getElem?_eq_getElem hke)
      have i1 : (0 : Int) ≤ (k : Int) := by omega
      have i2 : (k : Int) < (p.list.length : Int) := by omega
      have LTD := Go.Lib.hid (hI.lt HV.out)
      have wb := hI.below.size
      clear hI
      generalize hx : es[k] = e at *
      obtain ⟨b, Ao, co, Ab, cb, Ar, cr⟩ := e
      dsimp only at HRAW HMEM
      have s4 : wo.heap.size < (wo.alloc (bfO b Ao co Ab cb Ar cr)).heap.size := by simp
      have e4 : (wo.alloc (bfO b Ao co Ab cb Ar cr)).heap.size = wo.heap.size + 1 := by simp
      have y4 : Below wo.heap.size wo (wo.alloc (bfO b Ao co Ab cb Ar cr)) := (Below.refl _ _).alloc (Nat.le_refl _) _
      have G4 : Hid (Bxo (wo.alloc (bfO b Ao co Ab cb Ar cr)) wo.heap.size 67 (bfL b Ao co Ab cb Ar cr)) := Go.Lib.hid (Bxo.made wo _ _)
      have HRAW4 := Go.Lib.hid (HRAW.out.at y4)
      go_upto_region 5 with (first
        | (refine wpList_load_bf rfl _ rfl _ rfl b Ao co Ab cb Ar cr HC.out ?_)
        | (refine wpList_store_bf rfl _ _ rfl _ rfl b Ao co Ab cb Ar cr rfl rfl ?_))
      generalize wo.alloc (bfO b Ao co Ab cb Ar cr) = W4 at *
      clear HC HRAW
      have q1 := HRAW4.out.rlen
      have q2 := HRAW4.out.rcap
      go_upto_region 7 with (first
        | (refine wpList_load_pk rfl _ rfl ⟨wo.heap.size, 5, none⟩ rfl b.head Ao co Ab cb (G4.out.mid 5 _ (sub_get rfl)) ?_)
        | (go_at_call 29; refine (ccopyPacket b.head Ao co Ab cb W4 V ⟨HRAW4.out.hs0, HRAW4.out.hs1, HRAW4.out.hd0, HRAW4.out.hd1, HRAW4.out.o, HRAW4.out.bo, HRAW4.out.lt⟩ (HSM.out.opts b HMEM.out) (HSM.out.body b HMEM.out)).mono ?_; rintro e w5 ⟨A2, c2, A3, c3, rfl, hp5, y5⟩; have HP5 := Go.Lib.hid hp5; have G5 := Go.Lib.hid (G4.out.keep y5 s4); dsimp only)
        | (refine wpList_store_any rfl 25 _ _ rfl wo.heap.size 5 67 _ (pkL b.head A2 c2 A3 c3) _ rfl rfl rfl G5.out info_pk (by show 5 + 11 ≤ 19; omega) (by simp [Value.oneCell']) ?_; intro w6 hb6 ho6; have G6 : Hid (Bxo w6 wo.heap.size 67 (bfL b A2 c2 A3 c3 Ar cr)) := Go.Lib.hid hb6; clear hb6; have c18 := G6.out.cell 18 rfl)
        | (go_at_call 53; have KV6 : KeepV V W4 w6 := fun q hq => World.cell?_of_block ((ho6.block _ (fun e => by have := HV.out _ hq; omega)).trans (y5.block _ (HRAW4.out.lt _ hq))); obtain ⟨rs0, hrm, hrr, hrd⟩ := (HRAW4.out.runs.keep KV6).els; have HRM := Go.Lib.hid hrm; have HRD := Go.Lib.hid hrd; refine (ccloneR Ar _ cr (rs0.flatMap Er.L) _ (by rw [flat_len Er.L 2 Er.len, ← hrm, List.length_map]) hrr (er_one _) (HSM.out.runs b HMEM.out) HRAW4.out.rnil q1).mono ?_; rintro e w7 ⟨A7, c7, rfl, ho7, y7⟩; have HO7 := Go.Lib.hid ho7; clear ho7 hrm hrr hrd; have G7 := Go.Lib.hid (G6.out.keep y7 G6.out.lt); dsimp only)
        | (refine wpList_store_any rfl 65 _ _ rfl wo.heap.size 18 67 _ [.slice A7 b.runs.length c7] _ rfl rfl rfl G7.out info_sr (by show 18 + 1 ≤ 19; omega) (by simp [Value.oneCell']) ?_; intro w8 hb8 ho8; have G8 : Hid (Bxo w8 wo.heap.size 67 (bfL b A2 c2 A3 c3 A7 c7)) := Go.Lib.hid hb8; clear hb8 c18))
      have nr : 0 < b.runs.length := List.length_pos_iff.2 (HSM.out.some b HMEM.out)
      obtain ⟨gR, hA7, hR1, hR2⟩ := (own_addr HO7.out).resolve_left (by rintro ⟨_, h, _⟩; omega)
      subst hA7
      have z5 := y5.size
      have z6 := ho6.size
      have z7 := y7.size
      have z8 := ho8.size
      have lc7 := own_cap HO7.out
      unfold maxLen at lc7
      obtain ⟨lc7a, lc7b⟩ := lc7
      have hgbR : wo.heap.size ≠ gR := by omega
      have HRL0 : Hid (rs0.length = b.runs.length) := Go.Lib.hid (by rw [← HRM.out, List.length_map])
      have hD5 : ∀ x, growV D W4 w5 x → x ≠ wo.heap.size ∧ x ≠ gR ∧ x < w5.heap.size := fun x h => by
        rcases h with h | h
        · have := LTD.out x h; omega
        · omega
      have HD5 := Go.Lib.hid hD5
      clear hD5
      have hV5 : ∀ x, V x → growV D W4 w5 x := fun x h => .inl (HI.out.sub x h)
      have II0 : Hid (InI b w8 gR c7 w6.heap.size (growV D W4 w5) w8 rs0) := Go.Lib.hid ⟨by
          unfold OwnR
          rw [HRL0.out]
          exact own_keep HO7.out (ho8.block gR (fun e => hgbR e.symm)), HRM.out, fun r hr => by
          have h := HRD.out r hr
          have h2 : ByIn w7 V r.A r.c r.r.data := h.keepH (fun x hx => y7.block x (by have := HV.out x hx; omega))
          exact (h2.keepH (fun x hx => ho8.block x (fun e => by have := HV.out x hx; omega))).more (fun x hx => .inl (hV5 x hx)), Gro.refl⟩
      clear HRD HRM HRL0
      have c18 := G8.out.cell 18 rfl
      go_wp2
      clear c18
      go_loopw [30] (fun i wx => ∃ (j : Nat) (rs : List Er), j ≤ b.runs.length ∧ i = .int .i64 j ∧ InI b w8 gR c7 w6.heap.size (growV D W4 w5) wx rs) (fun i _ => b.runs.length - (intOf i).toNat)
      case atStart => exact ⟨0, rs0, by omega, rfl, II0.out⟩
      case round =>
        rename World => wx
        clear II0
        obtain ⟨j, rs, hj, rfl, hII⟩ := hrel
        have II := Go.Lib.hid hII
        have hrl : rs.length = b.runs.length := by rw [← hII.map, List.length_map]
        have hwx := hII.gro.size
        clear hII
        by_cases hjl : j < b.runs.length
        · have hjr : j < rs.length := by omega
          have i3 : (0 : Int) ≤ (j : Int) := by omega
          have i4 : (j : Int) < (b.runs.length : Int) := by omega
          have HGJ : Hid (rs[j]? = some rs[j]) := Go.Lib.hid (List.getElem?_eq_getElem hjr)
          have HXC : Hid (∀ i, i < 2 → wx.cell? ⟨gR, j * 2 + i, none⟩ = (rs[j].L)[i]?) := Go.Lib.hid (fun i hi => by
            rw [own_cells II.out.row (j * 2 + i) (by omega)]
            exact flat_get Er.L 2 Er.len rs j i hjr hi)
          have HXD0 := Go.Lib.hid (II.out.data _ (List.getElem_mem hjr))
          have HXR : Hid (rs[j].r ∈ b.runs) := Go.Lib.hid (by rw [← II.out.map]; exact List.mem_map_of_mem (List.getElem_mem hjr))
          have HXS : Hid (∀ x, rs[j] = x → ∀ A' c', spl (rs.flatMap Er.L) (j * 2 + 1) [.slice A' x.r.data.length c'] = (rs.set j ⟨x.r, A', c'⟩).flatMap Er.L) := Go.Lib.hid (fun x h A' c' => by rw [← h]; exact er_set rs j hjr A' c')
          have HXM : Hid (∀ x, rs[j] = x → ∀ A' c', (rs.set j ⟨x.r, A', c'⟩).map Er.r = b.runs) := Go.Lib.hid (fun x h A' c' => by
            rw [List.map_set, ← II.out.map]
            subst h
            show (rs.map Er.r).set j rs[j].r = _
            rw [← List.getElem_map Er.r (h := by simpa using hjr), List.set_getElem_self])
          generalize hx : rs[j] = x at *
          have HXS2 := Go.Lib.hid (HXS.out x rfl)
          have HXM2 := Go.Lib.hid (HXM.out x rfl)
          clear HXS HXM hx
          have r0 : wx.cell? ⟨gR, j * 2, none⟩ = some (.int .i64 x.r.off) := HXC.out 0 (by omega)
          have r1 : wx.cell? ⟨gR, j * 2 + 1, none⟩ = some (.slice x.A x.r.data.length x.c) := HXC.out 1 (by omega)
          have HLX : Hid (x.r.data.length ≤ 16777216) := Go.Lib.hid (HSM.out.data b HMEM.out _ HXR.out)
          have q7 := HXD0.out.len
          have q8 := HXD0.out.cap
          have c18 := (G8.out.gro II.out.gro hgbR).cell 18 rfl
          go_upto_region 10 with fail
          have y10 : Below wx.heap.size wx (wx.alloc (oRn x.r x.A x.c)) := (Below.refl _ _).alloc (Nat.le_refl _) _
          have sx : wx.heap.size < (wx.alloc (oRn x.r x.A x.c)).heap.size := by simp
          have HR10 : Hid (Bxo (wx.alloc (oRn x.r x.A x.c)) wx.heap.size 89 [.int .i64 x.r.off, .slice x.A x.r.data.length x.c]) := Go.Lib.hid (Bxo.made wx _ _)
          have hr10R : wx.heap.size ≠ gR := by omega
          have hgR10 : gR < (wx.alloc (oRn x.r x.A x.c)).heap.size := by omega
          have HG := Go.Lib.hid ((G8.out.gro II.out.gro hgbR).alloc (oRn x.r x.A x.c))
          have HXD := Go.Lib.hid (HXD0.out.keepH (w' := wx.alloc (oRn x.r x.A x.c)) (fun y h => y10.block y (by rcases h with h | h; have := (HD5.out y h).2.2; omega; exact h.2)))
          have LTX : Hid (∀ y, growV (growV D W4 w5) w8 wx y → y < wx.heap.size) := Go.Lib.hid (fun y h => by rcases h with h | h; have := (HD5.out y h).2.2; omega; exact h.2)
          have NRX : Hid (¬ growV (growV D W4 w5) w8 wx gR) := Go.Lib.hid (fun h => by rcases h with h | h; exact (HD5.out gR h).2.1 rfl; omega)
          have HRW := Go.Lib.hid (own_keep II.out.row (y10.block gR (by omega)))
          have HGW := Go.Lib.hid (II.out.gro.trans (gro_below y10))
          clear HXC HXD0 r0 r1 c18
          generalize wx.alloc (oRn x.r x.A x.c) = W10 at *
          try simp only [Act.put, List.setIfInBounds_toArray, List.set_cons_zero, List.set_cons_succ]
          refine wp_region_held_drew (S := fun Y => Gro gR W10 Y) (by kernel_rfl) ?_ (fun hHeld => ?_)
          · exact (gro_below (below_drew (Below.refl _ _)))
          refine wpAnyH_take (i := 0) (oi := ⟨some 35, _, _, _, _, _⟩) (v := ?_) rfl (by kernel_rfl) (by kernel_rfl) (by kernel_rfl) (fun _ _ _ h => h) (Or.inl ⟨by rfl, ?_⟩) (by assumption) ?_
          rotate_left
          · intro w hSw; (try dsimp only at hSw); go_simp; (try with_reducible rfl)
          try simp only [Act.put, List.setIfInBounds_toArray, List.set_cons_zero, List.set_cons_succ]
          refine wpAnyH_take (i := 1) (oi := ⟨some 36, _, _, _, _, _⟩) (v := ?_) rfl (by kernel_rfl) (by kernel_rfl) (by kernel_rfl) (fun _ _ _ h => h) (Or.inl ⟨by rfl, ?_⟩) (by assumption) ?_
          rotate_left
          · intro w hSw; have c18 := (HG.out.gro hSw hgbR).cell 18 rfl; (try dsimp only at hSw); go_simp; (try with_reducible rfl)
          try simp only [Act.put, List.setIfInBounds_toArray, List.set_cons_zero, List.set_cons_succ]
          refine wpAnyH_take (i := 2) (oi := ⟨some 37, _, _, _, _, _⟩) (v := ?_) rfl (by kernel_rfl) (by kernel_rfl) (by kernel_rfl) (fun _ _ _ h => h) (Or.inl ⟨by rfl, ?_⟩) (by assumption) ?_
          rotate_left
          · intro w hSw; (try dsimp only at hSw); go_simp; (try with_reducible rfl)
          try simp only [Act.put, List.setIfInBounds_toArray, List.set_cons_zero, List.set_cons_succ]
          refine wpAnyH_take (i := 3) (oi := ⟨some 38, _, _, _, _, _⟩) (v := ?_) rfl (by kernel_rfl) (by kernel_rfl) (by kernel_rfl) (fun _ _ _ h => h) (Or.inl ⟨by rfl, ?_⟩) (by assumption) ?_
          rotate_left
          · intro w hSw; (try dsimp only at hSw); go_simp; (try with_reducible rfl)
          try simp only [Act.put, List.setIfInBounds_toArray, List.set_cons_zero, List.set_cons_succ]
          refine wpAnyH_take (i := 4) (oi := ⟨some 39, _, _, _, _, _⟩) (v := ?_) rfl (by kernel_rfl) (by kernel_rfl) (by kernel_rfl) (fun _ _ _ h => h) (Or.inl ⟨by rfl, ?_⟩) (by assumption) ?_
          rotate_left
          · intro w hSw; have d1 := (HR10.out.gro hSw hr10R).cell 1 rfl; (try dsimp only at hSw); go_simp; (try with_reducible rfl)
          try simp only [Act.put, List.setIfInBounds_toArray, List.set_cons_zero, List.set_cons_succ]
          refine wpAnyH_ready (rs := [5]) (by kernel_rfl) (by simp) (AllReadyH.cons (o := ⟨some 40, _, _, _, _, _⟩) rfl (fun Kc hKc => ?_) AllReadyH.nil)
          go_simp
          go_at_call 40; refine (ccloneV x.A _ x.c x.r.data _ (growV (growV D W4 w5) w8 wx) rfl (HXD.out.keepH (fun b h => hHeld.block b (Nat.lt_trans (LTX.out b h) sx) (fun e => NRX.out (e ▸ h)))) (fun b h => Nat.lt_of_lt_of_le (Nat.lt_trans (LTX.out b h) sx) hHeld.size) HLX.out).mono ?_; rintro e w11 ⟨A11, c11, rfl, hb11, hf11, y11⟩; have HB11 := Go.Lib.hid hb11; have G11 := Go.Lib.hid (hHeld.trans (gro_below y11)); have OR11 := Go.Lib.hid (own_keep HRW.out ((y11.block gR (Nat.lt_of_lt_of_le hgR10 hHeld.size)).trans rfl)); dsimp only
          refine hKc.out _ _ (hHeld.trans (gro_below y11)) (fun hHeld => ?_)
          clear hKc Kc
          try simp only [Act.put, List.setIfInBounds_toArray, List.set_cons_zero, List.set_cons_succ]
          refine wpAnyH_take (i := 6) (oi := ⟨some 41, _, _, _, _, _⟩) (v := ?_) rfl (by kernel_rfl) (by kernel_rfl) (by kernel_rfl) (fun _ _ _ h => h) (Or.inl ⟨by rfl, ?_⟩) (by assumption) ?_
          rotate_left
          · intro w hSw; (try dsimp only at hSw); go_simp; (try with_reducible rfl)
          try simp only [Act.put, List.setIfInBounds_toArray, List.set_cons_zero, List.set_cons_succ]
          refine wpAnyH_take (i := 7) (oi := ⟨some 42, _, _, _, _, _⟩) (v := ?_) rfl (by kernel_rfl) (by kernel_rfl) (by kernel_rfl) (fun _ _ _ h => h) (Or.inl ⟨by rfl, ?_⟩) (by assumption) ?_
          rotate_left
          · intro w hSw; (try dsimp only at hSw); go_simp; (try with_reducible rfl)
          try simp only [Act.put, List.setIfInBounds_toArray, List.set_cons_zero, List.set_cons_succ]
          refine wpAnyH_ready (rs := [8]) (by kernel_rfl) (by simp) (AllReadyH.cons (o := ⟨none, _, _, _, _, _⟩) rfl (fun Kc hKc => ?_) AllReadyH.nil)
          rw [if_pos (by rfl)]
          obtain ⟨cur, hcur, hcl, hct, hc1, hc2, hc3, hc4⟩ := own_open OR11.out; refine step_store_any 23 _ _ rfl gR (j * 2 + 1) 89 cur [.slice A11 x.r.data.length c11] _ rfl rfl rfl hcur info_bs (by show j * 2 + 1 + 1 ≤ cur.length; rw [hcl]; omega) (by simp [Value.oneCell']) ?_; intro w12 hb12 ho12; have OR12 := Go.Lib.hid (own_spl OR11.out hcur (by show j * 2 + 1 + 1 ≤ rs.length * 2; omega) hb12); clear hb12 hcur
          refine hKc.out _ _ (hHeld.trans ho12.gro) (fun hHeld => ?_)
          clear hKc Kc
          try simp only [Act.put, List.setIfInBounds_toArray, List.set_cons_zero, List.set_cons_succ]
          refine wpAnyH_done (by kernel_rfl) ?_ _
          have y12 := Go.Lib.hid (HGW.out.trans hHeld)
          have hdat : InI b w8 gR c7 w6.heap.size (growV D W4 w5) w12 (rs.set j ⟨x.r, A11, c11⟩) := InI.next II.out hjr (HXM2.out A11 c11) (by rw [← HXS2.out]; exact OR12.out) y10 hHeld (fun y h => ⟨(HD5.out y h).2.1, by have := (HD5.out y h).2.2; omega⟩) (by omega) HB11.out ho12 hf11 (Nat.le_of_lt sx)
          have HDAT := Go.Lib.hid hdat
          clear hHeld y11 ho12 hdat hb11
          go_wp2
          go_round
          case rel => exact ⟨j + 1, _, by omega, by go_num, HDAT.out⟩
          case measure => simp [intOf]; omega
        · obtain rfl : j = b.runs.length := by omega
          have HCH : Hid (∀ x, x < wo.heap.size → wx.heap[x]? = wo.heap[x]?) := Go.Lib.hid (fun x hx => (((((II.out.gro.block x (by omega) (by omega)).trans (ho8.block x (by omega))).trans (y7.block x (by omega))).trans (ho6.block x (by omega))).trans (y5.block x (by omega))).trans (y4.block x hx))
          have hrowL : OwnB wx (w.heap.size + 2) (some ⟨gL, 0, none⟩) c1 es := own_keep HI.out.row (HCH.out gL hL2)
          have HRL := Go.Lib.hid hrowL
          obtain ⟨cur, hcur, hcl, hct, hc1, hc2, hc3, hc4⟩ := own_open hrowL
          have HCUR := Go.Lib.hid hcur
          have HCL : Hid (cur.length = c1 * 19) := Go.Lib.hid hcl
          have HK19 : Hid (k * 19 + 19 ≤ cur.length) := Go.Lib.hid (by rw [hcl]; omega)
          have pd3 : wx.cell? ⟨w.heap.size, 3, none⟩ = some (.slice (some ⟨gL, 0, none⟩) p.list.length c1) := (show Bxo wx _ _ _ from (HCH.out _ (by omega)).trans HI.out.box).cell 3 rfl
          have G9 := Go.Lib.hid (G8.out.gro II.out.gro hgbR)
          have Z9 : Hid (Below 0 wo wx) := Go.Lib.hid ((((((y4.mono (Nat.zero_le _)).trans (y5.mono (Nat.zero_le _))).trans (ho6.below (Nat.zero_le _))).trans (y7.mono (Nat.zero_le _))).trans (ho8.below (Nat.zero_le _))).trans (II.out.gro.below (Nat.zero_le _) (Nat.zero_le _)))
          clear hrowL hcur hcl hct hc1 hc2 hc3 hc4
          go_wp2_with (first
            | (refine wpList_load_bf rfl _ rfl ⟨wo.heap.size, 0, none⟩ rfl b A2 c2 A3 c3 (some ⟨gR, 0, none⟩) c7 G9.out.at ?_)
            | (refine wpList_store_any rfl 67 _ _ rfl gL (k * 19) 67 cur (bfL b A2 c2 A3 c3 (some ⟨gR, 0, none⟩) c7) _ rfl rfl rfl HCUR.out info_bf HK19.out (by simp [Value.oneCell']) ?_; intro w13 hb13 ho13; have HB13 := Go.Lib.hid hb13; clear hb13))
          have z13 := ho13.size
          have hwx2 := Z9.out.size
          have HEL : Hid (ElAt w13 (w.heap.size + 2) (growV (growV D W4 w5) w8 wx) ⟨b, A2, c2, A3, c3, some ⟨gR, 0, none⟩, c7⟩ rs) := Go.Lib.hid (by
            have hh : ∀ x, growV V W4 w5 x → w13.heap[x]? = w5.heap[x]? := fun x h => by
              have hx : x ≠ wo.heap.size ∧ x < w5.heap.size ∧ x ≠ gR ∧ x ≠ gL := by
                rcases h with h | h
                · have := HV.out x h; omega
                · omega
              exact ((((ho13.block x hx.2.2.2).trans (II.out.gro.block x (by omega) hx.2.2.1)).trans (ho8.block x hx.1)).trans (y7.block x (by omega))).trans (ho6.block x hx.1)
            have hw : ∀ x, growV V W4 w5 x → growV (growV D W4 w5) w8 wx x := fun x h => by
              rcases h with h | h
              · exact .inl (.inl (HI.out.sub x h))
              · exact .inl (.inr h)
            refine ⟨HRAW4.out.s0, HRAW4.out.s1, HRAW4.out.d0, HRAW4.out.d1, HRAW4.out.hs0, HRAW4.out.hs1, HRAW4.out.hd0, HRAW4.out.hd1, (HP5.out.o.keepH hh).more hw, (HP5.out.b.keepH hh).more hw, II.out.map, own_base (own_keep II.out.row (ho13.block gR (by omega))) (by omega), fun r hr => (II.out.data r hr).keepH (fun x h => ho13.block x ?_)⟩
            rcases h with h | h
            · rcases h with h | h
              · exact fun e => HI.out.dl gL rfl (e ▸ h)
              · omega
            · omega)
          have HST := Go.Lib.hid (CpI.step HV.out HI.out hke (by obtain ⟨h1, h2⟩ := List.getElem?_eq_some_iff.1 HEK.out; rw [h2]) rfl (show wo.heap.size ≤ gR by omega) (by omega) (ho13.os.trans Z9.out.os) (ho13.tape.trans Z9.out.tape) (ho13.output.trans Z9.out.output) (fun x h1 h2 => (ho13.block x h2).trans (HCH.out x h1))
            (by
              have h := own_spl HRL.out HCUR.out (by show k * 19 + 19 ≤ es.length * 19; omega) HB13.out
              unfold OwnB
              rw [List.length_set]
              have e2 := spl_flat El.L 19 El.len es k ⟨b, A2, c2, A3, c3, some ⟨gR, 0, none⟩, c7⟩ hke
              rw [← e2]
              exact h) HEL.out (fun x h => .inl (.inl h)) (fun x h => by
                rcases h with h | h
                · rcases h with h | h
                  · exact .inl h
                  · exact .inr ⟨by omega, by omega, by omega⟩
                · exact .inr ⟨by omega, by omega, by omega⟩))
          go_round
          case rel => exact ⟨k + 1, _, _, by omega, by go_num, HST.out⟩
          case measure => simp [intOf]; omega
    · obtain rfl : k = p.list.length := by omega
      rename World => wo
      have HI := Go.Lib.hid hI
      have HB := Go.Lib.hid hI.box
      have HZ := Go.Lib.hid hI.zbox
      clear hI
      go_wp2_with (first
        | (refine wpList_load_box rfl 42 _ rfl w.heap.size rfl (poL p A1 c1) _ HB.out Try.underlying42 rfl info_po ?_)
        | (refine wpList_store_box rfl 42 _ _ rfl (w.heap.size + 1) 0 42 _ (poL p A1 c1) rfl rfl HZ.out info_po (by show 0 + 4 ≤ 4; omega) (po_one _ _ _) ?_; intro w14 hb14 ho14; have K14 : Hid (Bxo w14 (w.heap.size + 1) 42 (poL p A1 c1)) := Go.Lib.hid hb14; clear hb14))
      have d0 := K14.out.cell 0 rfl
      have d1 := K14.out.cell 1 rfl
      have d2 := K14.out.cell 2 rfl
      have d3 := K14.out.cell 3 rfl
      have y14 : Below w.heap.size w w14 := HI.out.below.trans (ho14.below (show w.heap.size ≤ w.heap.size + 1 by omega))
      refine bodyPost_ret (v := poV p A1 c1) ?_ rfl ⟨A1, c1, rfl, ⟨es, D, HI.out.map, ?_, fun x h => ?_⟩, y14⟩
      · simp [results, Try.results27, go_sem, d0, d1, d2, d3]
      · have h := HI.out
        rw [← hlen] at h
        refine ((h.own HV.out).keepH (Nat.le_of_eq ho14.size.symm) (fun x hx => ho14.block x (fun e => ?_)) (fun x hx _ => ho14.block x (by omega))).base (by omega)
        rcases h.dg x hx with h' | h'
        · have := HV.out x h'; omega
        · omega
      · rcases HI.out.dg x h with h' | h'
        · exact .inl h'
        · exact .inr ⟨by omega, by rw [ho14.size]; exact h'.2⟩
end Go.Proofs.Ytmblkgnjcmneeaa

/- The landed code's way beside the document's: plain mathematics. -/
namespace Go.Proofs.Ytmblkgnjcmneeaa
open Go.RowKit
set_option linter.unusedVariables false
set_option linter.unusedSimpArgs false

theorem held_run {r : Rn} : ∀ {l : List Rn}, r ∈ l → r.data.length ≤ heldR l
  | a :: t, h => by
    unfold heldR
    rcases List.mem_cons.1 h with rfl | h
    · omega
    · have := held_run h; omega
theorem held_len (total : Int) : ∀ (l : List Rn) (lo : Int), RunsOk total lo l → l.length ≤ heldR l
  | [], _, _ => Nat.le_refl _
  | a :: t, lo, ⟨h, k⟩ => by
    have := held_len total t _ k
    have := h.len
    simp only [heldR, List.length_cons]; omega
theorem held_bf {b : Bf} : ∀ {l : List Bf}, b ∈ l → heldR b.runs ≤ heldL l
  | a :: t, h => by
    unfold heldL
    rcases List.mem_cons.1 h with rfl | h
    · omega
    · have := held_bf h; omega
theorem RightP.small {p : Po} (h : RightP p) : SmallP p := by
  have hf := h.fits
  have hr := h.r1
  have hm : ∀ b ∈ p.list, heldR b.runs ≤ 1048576 := fun b hb => by
    have := held_bf hb
    unfold heldP at hf; omega
  refine ⟨by have := h.few; omega, fun b hb => by have := (h.good b hb).opts; omega, fun b hb => by rw [(h.good b hb).hbody]; simp, fun b hb => ?_, fun b hb => (h.good b hb).some, fun b hb r hr => ?_⟩
  · have := hm b hb; have := held_len _ _ _ (h.good b hb).runs; omega
  · have := hm b hb; have := held_run hr; omega
theorem nm_one (b : Bf) (x : Pk) : (nmB b == nmX x) = oneN b x := by
  rw [Bool.eq_iff_iff, beq_iff_eq, oneN_iff]
theorem findB_eq (l : List Bf) (x : Pk) : findB l (nmX x) = l.findIdx (fun b => oneN b x) := by
  have e : (fun b => nmB b == nmX x) = (fun b => oneN b x) := funext (fun b => nm_one b x)
  unfold findB
  rw [e]
/-- what is found. -/
theorem find_some {p : Po} {x : Pk} (h : findB p.list (nmX x) < p.list.length) : thereP p x = true ∧ oneN p.list[findB p.list (nmX x)] x = true ∧ ownP p x = p.list[findB p.list (nmX x)] := by
  rw [findB_eq] at h
  have h1 := List.findIdx_getElem (w := h)
  have e : p.list.find? (fun b => oneN b x) = some (p.list[p.list.findIdx (fun b => oneN b x)]'h) := by
    rw [List.find?_eq_some_iff_getElem]
    exact ⟨h1, _, h, rfl, fun j hj => by simpa using List.not_of_lt_findIdx hj⟩
  unfold thereP ownP
  simp only [findB_eq, e]
  exact ⟨rfl, h1, rfl⟩
theorem find_no {p : Po} {x : Pk} (h : ¬ findB p.list (nmX x) < p.list.length) : thereP p x = false ∧ ownP p x = newB p x ∧ findB p.list (nmX x) = p.list.length ∧ ∀ b ∈ p.list, oneN b x = false := by
  have hl := findB_le p.list (nmX x)
  have e : p.list.findIdx (fun b => oneN b x) = p.list.length := by rw [← findB_eq]; omega
  rw [List.findIdx_eq_length] at e
  have e' : p.list.find? (fun b => oneN b x) = none := by
    rw [List.find?_eq_none]
    intro b hb hx
    have := e b hb
    rw [hx] at this; cases this
  unfold thereP ownP
  rw [e']
  exact ⟨rfl, rfl, by omega, fun b hb => by simpa using e b hb⟩
/-- there is but one of a name. -/
theorem one_only {x : Pk} : ∀ {l : List Bf}, (l.map nmB).Nodup → ∀ (k : Nat) (hk : k < l.length), oneN l[k] x = true → ∀ (j : Nat) (hj : j < l.length), j ≠ k → oneN l[j] x = false
  | l, hn, k, hk, h, j, hj, hne => by
    by_cases hx : oneN l[j] x = true
    · exfalso
      have e : nmB l[j] = nmB l[k] := by rw [(oneN_iff _ x).1 hx, (oneN_iff _ x).1 h]
      have := (List.getElem_inj (h₀ := by rw [List.length_map]; exact hj) (h₁ := by rw [List.length_map]; exact hk) hn).1 (by rw [List.getElem_map, List.getElem_map]; exact e)
      exact hne this
    · simpa using hx
theorem filter_all (f : Bf → Bool) : ∀ l : List Bf, (∀ b ∈ l, f b = true) → l.filter f = l := fun l h => List.filter_eq_self.2 h
theorem erase_filter (x : Pk) : ∀ (l : List Bf) (k : Nat) (hk : k < l.length), (l.map nmB).Nodup → oneN l[k] x = true → l.eraseIdx k = l.filter (fun b => !oneN b x)
  | a :: t, 0, hk, hn, h => by
    have h' : oneN a x = true := h
    rw [List.eraseIdx_cons_zero, List.filter_cons_of_neg (by simp [h']), filter_all]
    intro b hb
    obtain ⟨j, hj, rfl⟩ := List.getElem_of_mem hb
    have := one_only hn 0 hk h (j + 1) (by simp; omega) (by omega)
    simpa using this
  | a :: t, k + 1, hk, hn, h => by
    have h0 := one_only hn (k + 1) hk h 0 (by simp) (by omega)
    have h0' : oneN a x = false := h0
    rw [List.eraseIdx_cons_succ, List.filter_cons_of_pos (by simp [h0'])]
    congr 1
    rw [List.map_cons, List.nodup_cons] at hn
    exact erase_filter x t k (by simpa using hk) hn.2 h
theorem set_put (x : Pk) (b : Bf) : ∀ (l : List Bf) (k : Nat) (hk : k < l.length), (l.map nmB).Nodup → oneN l[k] x = true → l.set k b = putL l x b
  | a :: t, 0, hk, hn, h => by
    have h' : oneN a x = true := h
    rw [List.set_cons_zero]
    show b :: t = (if oneN a x then b else a) :: putL t x b
    rw [if_pos h', putL_none]
    intro c hc
    obtain ⟨j, hj, rfl⟩ := List.getElem_of_mem hc
    have := one_only hn 0 hk h (j + 1) (by simp; omega) (by omega)
    simpa using this
  | a :: t, k + 1, hk, hn, h => by
    have h0 := one_only hn (k + 1) hk h 0 (by simp) (by omega)
    have h0' : oneN a x = false := h0
    rw [List.set_cons_succ]
    show a :: t.set k b = (if oneN a x then b else a) :: putL t x b
    rw [if_neg (by simp [h0'])]
    congr 1
    rw [List.map_cons, List.nodup_cons] at hn
    exact set_put x b t k (by simpa using hk) hn.2 h
theorem era_there {p : Po} (h : RightP p) {x : Pk} (hk : findB p.list (nmX x) < p.list.length) : eraP p (findB p.list (nmX x)) = withoutP p x := by
  unfold eraP withoutP
  rw [erase_filter x p.list _ hk h.names (find_some hk).2.1]
/-- with the piece, where the packet is there. -/
theorem with_there {p : Po} (h : RightP p) {x : Pk} (hk : findB p.list (nmX x) < p.list.length) : withP p x = ⟨p.room, p.life, p.now, p.list.set (findB p.list (nmX x)) (joinB p.list[findB p.list (nmX x)] x)⟩ := by
  obtain ⟨a, b, c⟩ := find_some hk
  unfold withP
  rw [if_pos a, c, set_put x _ p.list _ hk h.names b]
theorem with_new {p : Po} {x : Pk} (hk : ¬ findB p.list (nmX x) < p.list.length) : withP p x = ⟨p.room, p.life, p.now, p.list ++ [joinB (newB p x) x]⟩ := by
  obtain ⟨a, b, c, d⟩ := find_no hk
  unfold withP
  rw [a, b]; rfl
/-- and without it again. -/
theorem era_with {p : Po} (h : RightP p) (x : Pk) : eraP (withP p x) (findB p.list (nmX x)) = withoutP p x := by
  by_cases hk : findB p.list (nmX x) < p.list.length
  · rw [with_there h hk, ← era_there h hk]
    unfold eraP
    simp only [List.eraseIdx_set_eq]
  · obtain ⟨a, b, c, d⟩ := find_no hk
    rw [with_new hk]
    unfold eraP withoutP
    congr 1
    show (p.list ++ [joinB (newB p x) x]).eraseIdx (findB p.list (nmX x)) = _
    rw [c, List.eraseIdx_append_of_length_le (Nat.le_refl _), Nat.sub_self, filter_all]
    · simp
    · intro b hb
      rw [d b hb]; rfl
/-- the packet in the pool with the piece. -/
theorem with_at {p : Po} (h : RightP p) (x : Pk) : (withP p x).list[findB p.list (nmX x)]? = some (joinB (ownP p x) x) := by
  by_cases hk : findB p.list (nmX x) < p.list.length
  · rw [with_there h hk, (find_some hk).2.2]
    exact List.getElem?_set_self hk
  · obtain ⟨a, b, c, d⟩ := find_no hk
    rw [with_new hk, b, c]
    exact List.getElem?_concat_length
/-- runs that don't overlap begin at places of their own. -/
theorem no_equal {b : Bf} {x : Pk} {now : Int} (h : PreB b now) (hl : 0 < x.body.length) (hc : clashB b x = false) : ∀ r ∈ b.runs, r.off ≠ x.off := fun r hr e => by
  have := (clash_no hc).2.1 r hr
  have h2 := (runs_lo _ _ _ h.runs r hr).2
  apply this
  unfold overR stopR
  show r.off < x.off + (x.body.length : Int) ∧ x.off < r.off + (r.data.length : Int)
  omega
/-- the end of the document's Take. -/
def takeE (p : Po) (x : Pk) : Tk :=
  if (joinB (ownP p x) x).total < 0 ∨ ((bodyR (joinB (ownP p x) x).runs []).length : Int) ≠ (joinB (ownP p x) x).total then ⟨withP p x, Pk.empty, false, 0⟩
  else
    let h := (joinB (ownP p x) x).head
    let out : Pk := ⟨h.tos, h.id, h.df, h.mf, h.off, h.ttl, h.proto, h.src, h.dst, h.opts, bodyR (joinB (ownP p x) x).runs []⟩
    if mayB out = true then ⟨withoutP p x, out, true, 0⟩ else ⟨withoutP p x, Pk.empty, false, 7⟩
theorem take_end {p : Po} (h : RightP p) {x : Pk} (hm : May x) (hl : 0 < x.body.length) (hc : clashB (ownP p x) x = false) : takeE p x = tkO (withP p x) (findB p.list (nmX x)) (joinB (ownP p x) x) := by
  have hg := join_good (own_pre h x) hm hl hc
  have hw := whole_code hg.runs hg.t0 (List.length_pos_iff.2 hg.some)
  unfold takeE tkO
  rw [era_with h x]
  by_cases hx : (joinB (ownP p x) x).total < 0 ∨ ((bodyR (joinB (ownP p x) x).runs []).length : Int) ≠ (joinB (ownP p x) x).total
  · rw [if_pos hx, if_pos (by rw [hw]; simp [hx])]
  · have hq : ¬ wholeB (joinB (ownP p x) x) = false := by rw [hw]; simp [hx]
    rw [if_neg hx, if_neg (c := wholeB (joinB (ownP p x) x) = false) hq]
    rfl
/-- the ways of the document's Take, by the code's own questions. -/
theorem take_piece {p : Po} {x : Pk} (h : x.mf = false ∧ x.off = 0) : takeP p x = ⟨p, x, true, 0⟩ := by unfold takeP; rw [if_pos h]
theorem take_arg {p : Po} {x : Pk} (h : ¬ (x.mf = false ∧ x.off = 0)) (k : rightP p = false ∨ mayB x = false ∨ x.body.length = 0) : takeP p x = ⟨p, Pk.empty, false, 1⟩ := by unfold takeP; rw [if_neg h, if_pos k]
theorem take_clash {p : Po} {x : Pk} (h : ¬ (x.mf = false ∧ x.off = 0)) (k : ¬ (rightP p = false ∨ mayB x = false ∨ x.body.length = 0)) (c : clashB (ownP p x) x = true) : takeP p x = ⟨withoutP p x, Pk.empty, false, 7⟩ := by unfold takeP; rw [if_neg h, if_neg k, if_pos c]
theorem take_full {p : Po} {x : Pk} (h : ¬ (x.mf = false ∧ x.off = 0)) (k : ¬ (rightP p = false ∨ mayB x = false ∨ x.body.length = 0)) (c : clashB (ownP p x) x = false) (f : (thereP p x = false ∧ 64 ≤ p.list.length) ∨ p.room < (heldP p : Int) + (x.body.length : Int)) : takeP p x = ⟨p, Pk.empty, false, 8⟩ := by unfold takeP; rw [if_neg h, if_neg k, if_neg (by rw [c]; simp), if_pos f]
theorem take_rest {p : Po} {x : Pk} (h : ¬ (x.mf = false ∧ x.off = 0)) (k : ¬ (rightP p = false ∨ mayB x = false ∨ x.body.length = 0)) (c : clashB (ownP p x) x = false) (f : ¬ ((thereP p x = false ∧ 64 ≤ p.list.length) ∨ p.room < (heldP p : Int) + (x.body.length : Int))) : takeP p x = takeE p x := by unfold takeP; rw [if_neg h, if_neg k, if_neg (by rw [c]; simp), if_neg f]; rfl
/-- a new packet clashes with nothing. -/
theorem clash_new (p : Po) (x : Pk) : clashB (newB p x) x = false := by
  unfold clashB newB
  simp
end Go.Proofs.Ytmblkgnjcmneeaa

/- The contract of package reasm's headOf. -/
namespace Go.Proofs.Ytmblkgnjcmneeaa
open Go.ChangeShapes Go.WideShapes Go.ChangeAt Go.RowKit
set_option linter.unusedVariables false
set_option linter.unusedSimpArgs false

def hdX (x : Pk) : Pk := ⟨x.tos, x.id, x.df, false, x.off, x.ttl, x.proto, x.src, x.dst, x.opts, []⟩
set_option maxRecDepth 100000 in
set_option maxHeartbeats 4000000 in
theorem cheadOf (x : Pk) (Ao : Option Addr) (co : Nat) (Ab : Option Addr) (cb : Nat) (w : World) (V : Nat → Prop) (hx : PkAt w V x Ao co Ab cb) (ho : x.opts.length ≤ 16777216) :
    Calls Try.prog 61 #[ipV x Ao co Ab cb] w fun e w' => ∃ A2 c2, e = .returned (ipV (hdX x) A2 c2 none 0) ∧ PkAt w' (growV V w w') (hdX x) A2 c2 none 0 ∧ (∀ ad, A2 = some ad → w.heap.size ≤ ad.block) ∧ Below w.heap.size w w' := by
  have HV := Go.Lib.hid hx.lt
  have HS := Go.Lib.hid (And.intro hx.s0 (And.intro hx.s1 (And.intro hx.d0 hx.d1)))
  have y0 : Below w.heap.size w ((w.alloc (oPk x Ao co Ab cb)).alloc (oPk pk0 none 0 none 0)) := below_alloc (below_alloc (Below.refl _ _) (Nat.le_refl _) _) (by simp) _
  have h1 := (Bxo.made w 25 (pkL x Ao co Ab cb)).alloc (oPk pk0 none 0 none 0)
  have h2 : Bxo ((w.alloc (oPk x Ao co Ab cb)).alloc (oPk pk0 none 0 none 0)) (w.heap.size + 1) 25 (pkL pk0 none 0 none 0) := by
    have := Bxo.made (w.alloc (oPk x Ao co Ab cb)) 25 (pkL pk0 none 0 none 0)
    simpa using this
  have hz : ((w.alloc (oPk x Ao co Ab cb)).alloc (oPk pk0 none 0 none 0)).heap.size = w.heap.size + 2 := by simp
  have hxo := hx.at y0
  have HN1 : Hid (¬ V w.heap.size) := Go.Lib.hid (fun h => Nat.lt_irrefl _ (hx.lt _ h))
  have HN2 : Hid (¬ V (w.heap.size + 1)) := Go.Lib.hid (fun h => by have := hx.lt _ h; omega)
  have q1 := hx.o.len
  have q2 := hx.o.cap
  clear hx
  go_enter Try.func61, Try.ntmps61
  go_upto_region 1 with fail
  generalize ((w.alloc (oPk x Ao co Ab cb)).alloc (oPk pk0 none 0 none 0)) = W1 at *
  have H1 := Go.Lib.hid h1
  have H2 := Go.Lib.hid h2
  have HO := Go.Lib.hid hxo.o
  have HLT := Go.Lib.hid hxo.lt
  clear h1 h2 hxo
  go_wp2_with (first
    | (refine wpList_store_any rfl 4 _ _ rfl w.heap.size 3 25 _ [.bool false] _ rfl rfl rfl H1.out info_b1 (by show 3 + 1 ≤ 11; omega) (by simp [Value.oneCell']) ?_; intro w2 hb2 ho2; have K2 := Go.Lib.hid hb2; have c9 := K2.out.cell 9 rfl; clear hb2)
    | (go_at_call 40; refine (ccloneV Ao _ co x.opts w2 V rfl (HO.out.keepH (fun b h => ho2.block b (fun e => HN1.out (e ▸ h)))) (fun b h => by rw [ho2.size]; exact HLT.out b h) ho).mono ?_; rintro e w3 ⟨A2, c2, rfl, hb3, hf3, y3⟩; have HB3 := Go.Lib.hid hb3; have K3 := Go.Lib.hid (K2.out.keep y3 (by rw [ho2.size]; omega)); dsimp only)
    | (refine wpList_store_any rfl 23 _ _ rfl w.heap.size 9 25 _ [.slice A2 x.opts.length c2] _ rfl rfl rfl K3.out info_bs (by show 9 + 1 ≤ 11; omega) (by simp [Value.oneCell']) ?_; intro w4 hb4 ho4; have K4 := Go.Lib.hid hb4; clear hb4)
    | (refine wpList_store_any rfl 23 _ _ rfl w.heap.size 10 25 _ [.slice none 0 0] _ rfl rfl rfl K4.out info_bs (by show 10 + 1 ≤ 11; omega) (by simp [Value.oneCell']) ?_; intro w5 hb5 ho5; have K5 : Hid (Bxo w5 w.heap.size 25 (pkL (hdX x) A2 c2 none 0)) := Go.Lib.hid hb5; clear hb5; have KZ := Go.Lib.hid ((((H2.out.only ho2 (by omega)).keep y3 (by rw [ho2.size]; omega)).only ho4 (by omega)).only ho5 (by omega)))
    | (refine wpList_load_box rfl 25 _ rfl w.heap.size rfl (pkL (hdX x) A2 c2 none 0) _ K5.out Try.underlying25 rfl info_pk ?_)
    | (refine wpList_store_box rfl 25 _ _ rfl (w.heap.size + 1) 0 25 _ (pkL (hdX x) A2 c2 none 0) rfl rfl KZ.out info_pk (by show 0 + 11 ≤ 11; omega) (pk_one _ _ _ _ _) ?_; intro w6 hb6 ho6; have K6 : Hid (Bxo w6 (w.heap.size + 1) 25 (pkL (hdX x) A2 c2 none 0)) := Go.Lib.hid hb6; clear hb6))
  have z3 := y3.size
  have e2 := ho2.size
  have y6 : Below w.heap.size w w6 := ((((y0.trans (ho2.below (Nat.le_refl _))).trans (y3.mono (by omega))).trans (ho4.below (Nat.le_refl _))).trans (ho5.below (Nat.le_refl _))).trans (ho6.below (show w.heap.size ≤ w.heap.size + 1 by omega))
  have d0 := K6.out.cell 0 rfl
  have d1 := K6.out.cell 1 rfl
  have d2 := K6.out.cell 2 rfl
  have d3 := K6.out.cell 3 rfl
  have d4 := K6.out.cell 4 rfl
  have d5 := K6.out.cell 5 rfl
  have d6 := K6.out.cell 6 rfl
  have d7 := K6.out.cell 7 rfl
  have d8 := K6.out.cell 8 rfl
  have d9 := K6.out.cell 9 rfl
  have d10 := K6.out.cell 10 rfl
  refine bodyPost_ret (v := ipV (hdX x) A2 c2 none 0) ?_ rfl ⟨A2, c2, rfl, ⟨HS.out.1, HS.out.2.1, HS.out.2.2.1, HS.out.2.2.2, (((HB3.out.only ho4 (by omega) HN1.out).only ho5 (by omega) HN1.out).only ho6 (by omega) HN2.out).wide (by omega), ⟨by simp [hdX], by omega, fun _ => rfl, .inl rfl⟩, grow_lt HV.out y6.size⟩, fun ad h => by have := hf3 ad h; omega, y6⟩
  simp [results, Try.results61, go_sem, d0, d1, d2, d3, d4, d5, d6, d7, d8, d9, d10]
end Go.Proofs.Ytmblkgnjcmneeaa
