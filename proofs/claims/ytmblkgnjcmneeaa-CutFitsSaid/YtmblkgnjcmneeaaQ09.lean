/- Lemmas, several texts in one. -/
import Derived.Test.YtmblkgnjcmneeaaQ01
import Derived.Test.YtmblkgnjcmneeaaQ07
import Derived.Test.YtmblkgnjcmneeaaQ08
/- The contract of package reasm's takeOut. -/
namespace Go.Proofs.Ytmblkgnjcmneeaa
open Go.ChangeShapes Go.WideShapes Go.ChangeAt Go.RowKit
set_option linter.unusedVariables false
set_option linter.unusedSimpArgs false

/-- a pool without the packet at a place. -/
def eraP (p : Po) (k : Nat) : Po := ⟨p.room, p.life, p.now, p.list.eraseIdx k⟩
/-- what it answers. -/
def tkO (p : Po) (k : Nat) (b : Bf) : Tk := if wholeB b = false then ⟨p, Pk.empty, false, 0⟩ else if mayB (outB b) = true then ⟨eraP p k, outB b, true, 0⟩ else ⟨eraP p k, Pk.empty, false, 7⟩
theorem OwnPo.erase {w w' : World} {base : Nat} {D : Nat → Prop} {gL c k : Nat} {es : List El} (h : OwnPo w base D (some ⟨gL, 0, none⟩) c es) (hrow : OwnB w' base (some ⟨gL, 0, none⟩) c (es.eraseIdx k)) (hg : Gro gL w w') : OwnPo w' base D (some ⟨gL, 0, none⟩) c (es.eraseIdx k) := by
  refine ⟨hrow, fun e he => ?_, h.dl, fun e he => h.de e (List.mem_of_mem_eraseIdx he), h.dis.sublist (List.eraseIdx_sublist _ _), fun b hb => Nat.lt_of_lt_of_le (h.lt b hb) hg.size⟩
  have hm := List.mem_of_mem_eraseIdx he
  obtain ⟨rs, hr⟩ := h.els e hm
  refine ⟨rs, hr.keep (fun b hb => hg.block b (h.lt b hb) (fun e' => h.dl gL rfl (e' ▸ hb))) (fun g hg' => ?_)⟩
  rcases own_addr hr.row with ⟨hn', _⟩ | ⟨g2, hg2, h1, h2⟩
  · rw [hn'] at hg'; cases hg'
  · have h3 := (h.de e hm g hg').2
    rw [hg2] at hg'; injection hg' with hg'; have hg' : g2 = g := hg'
    exact hg.block g (by omega) (fun e' => h3 (by rw [e']; rfl))
theorem bfc {w : World} {gL c k base : Nat} {D : Nat → Prop} {es : List El} {e : El} (h : OwnPo w base D (some ⟨gL, 0, none⟩) c es) (he : es[k]? = some e) : ∀ j v, (e.L)[j]? = some v → w.cell? ((⟨gL, k * 19, none⟩ : Addr).add j) = some v := by
  obtain ⟨hk, rfl⟩ := List.getElem?_eq_some_iff.1 he
  exact bf_cells h.row k hk
theorem OwnPo.keepR {w w' : World} {base : Nat} {D : Nat → Prop} {A : Option Addr} {c : Nat} {es : List El} (h : OwnPo w base D A c es) (hs : w.heap.size ≤ w'.heap.size) (hD : ∀ b, D b → w'.heap[b]? = w.heap[b]?) (hA : ∀ g, blk A = some g → w'.heap[g]? = w.heap[g]?) (hE : ∀ e ∈ es, ∀ g, blk e.Ar = some g → w'.heap[g]? = w.heap[g]?) : OwnPo w' base D A c es :=
  ⟨own_keepA h.row hA, fun e he => by obtain ⟨rs, hr⟩ := h.els e he; exact ⟨rs, hr.keep hD (hE e he)⟩, h.dl, h.de, h.dis, fun b hb => Nat.lt_of_lt_of_le (h.lt b hb) hs⟩
theorem OwnPo.rlt {w : World} {base : Nat} {D : Nat → Prop} {A : Option Addr} {c : Nat} {es : List El} (h : OwnPo w base D A c es) : ∀ e ∈ es, ∀ g, blk e.Ar = some g → g < w.heap.size := fun e he g hg => by
  obtain ⟨rs, hr⟩ := h.els e he
  rcases own_addr hr.row with ⟨hn', _⟩ | ⟨g2, hg2, h1, h2⟩
  · rw [hn'] at hg; cases hg
  · rw [hg2] at hg; injection hg with hg; have hg : g2 = g := hg; omega
def OutAt (w : World) (base : Nat) (D : Nat → Prop) (t : Tk) (A : Option Addr) (c : Nat) (Ao : Option Addr) (co : Nat) (Ab : Option Addr) (cb : Nat) : Prop :=
  PoAt w (fun b => D b ∨ (base ≤ b ∧ b < w.heap.size)) t.pool A c ∧ PkAt w (fun b => D b ∨ (base ≤ b ∧ b < w.heap.size)) t.out Ao co Ab cb
theorem pk_none (w : World) (U : Nat → Prop) (lt : ∀ b, U b → b < w.heap.size) : PkAt w U Pk.empty none 0 none 0 :=
  ⟨by decide, by decide, by decide, by decide, ⟨Nat.zero_le _, Nat.zero_le _, fun _ => rfl, .inl rfl⟩, ⟨Nat.zero_le _, Nat.zero_le _, fun _ => rfl, .inl rfl⟩, lt⟩
set_option maxRecDepth 100000 in
set_option maxHeartbeats 8000000 in
theorem ctakeOut (p : Po) (gL c k : Nat) (es : List El) (base : Nat) (D : Nat → Prop) (w : World) (hO : OwnPo w base D (some ⟨gL, 0, none⟩) c es) (hp : es.map El.b = p.list) (hk : k < es.length) (hn : es.length ≤ 16777216) (hbase : base ≤ w.heap.size)
    (hR : RunsOk es[k].b.total 0 es[k].b.runs) (ht1 : es[k].b.total ≤ 65535) (ho : es[k].b.head.opts.length ≤ 40) (t : Tk) (htk : tkO p k es[k].b = t) :
    Calls Try.prog 38 #[poV p (some ⟨gL, 0, none⟩) c, .int .i64 k] w fun z w' => ∃ A' c' Ao co Ab cb, z = .returned (.tuple #[poV t.pool A' c', ipV t.out Ao co Ab cb, .bool t.ok, .int .i64 t.err]) ∧ OutAt w' base D t A' c' Ao co Ab cb ∧ Below base w w' := by
  have hl : p.list.length = es.length := by rw [← hp, List.length_map]
  have HL := Go.Lib.hid hl
  clear hl
  obtain ⟨gL', e1, hL1, hL2⟩ := (own_addr hO.row).resolve_left (by rintro ⟨h, _⟩; cases h)
  injection e1 with e1
  injection e1 with e1
  subst e1
  have HO := Go.Lib.hid hO
  have y0 : Below w.heap.size w (((w.alloc (oPo p (some ⟨gL, 0, none⟩) c)).alloc (oPo po0 none 0)).alloc (oPk pk0 none 0 none 0)) := below_alloc (below_alloc (below_alloc (Below.refl _ _) (Nat.le_refl _) _) (by simp) _) (by simp; omega) _
  have h1 := ((Bxo.made w 42 (poL p (some ⟨gL, 0, none⟩) c)).alloc (oPo po0 none 0)).alloc (oPk pk0 none 0 none 0)
  have h2 : Bxo (((w.alloc (oPo p (some ⟨gL, 0, none⟩) c)).alloc (oPo po0 none 0)).alloc (oPk pk0 none 0 none 0)) (w.heap.size + 1) 42 (poL po0 none 0) := by
    have := (Bxo.made (w.alloc (oPo p (some ⟨gL, 0, none⟩) c)) 42 (poL po0 none 0)).alloc (oPk pk0 none 0 none 0)
    simpa using this
  have h3 : Bxo (((w.alloc (oPo p (some ⟨gL, 0, none⟩) c)).alloc (oPo po0 none 0)).alloc (oPk pk0 none 0 none 0)) (w.heap.size + 2) 25 (pkL pk0 none 0 none 0) := by
    have := Bxo.made ((w.alloc (oPo p (some ⟨gL, 0, none⟩) c)).alloc (oPo po0 none 0)) 25 (pkL pk0 none 0 none 0)
    simpa using this
  have hz : (((w.alloc (oPo p (some ⟨gL, 0, none⟩) c)).alloc (oPo po0 none 0)).alloc (oPk pk0 none 0 none 0)).heap.size = w.heap.size + 3 := by simp
  have hO1 : OwnPo (((w.alloc (oPo p (some ⟨gL, 0, none⟩) c)).alloc (oPo po0 none 0)).alloc (oPk pk0 none 0 none 0)) base D (some ⟨gL, 0, none⟩) c es := hO.keepH y0.size (fun b hb => y0.block b (hO.lt b hb)) (fun b _ hb => y0.block b hb)
  have hcap := own_cap hO.row
  unfold maxLen at hcap
  obtain ⟨hc1, hc2⟩ := hcap
  have HEK : Hid (es[k]? = some es[k]) := Go.Lib.hid (List.getElem?_eq_getElem hk)
  clear hO
  go_enter Try.func38, Try.ntmps38
  go_upto_region 1 with fail
  generalize (((w.alloc (oPo p (some ⟨gL, 0, none⟩) c)).alloc (oPo po0 none 0)).alloc (oPk pk0 none 0 none 0)) = W at *
  have H1 := Go.Lib.hid h1
  have H2 := Go.Lib.hid h2
  have H3 := Go.Lib.hid h3
  have HO1 := Go.Lib.hid hO1
  obtain ⟨rs, hel⟩ := hO1.els _ (List.getElem_mem hk)
  have hrb : ∀ g, blk es[k].Ar = some g → g < W.heap.size := fun g hg => by
    rcases own_addr hel.row with ⟨hn', _⟩ | ⟨g2, hg2, h1, h2⟩
    · rw [hn'] at hg; cases hg
    · rw [hg2] at hg; injection hg with hg; have hg : g2 = g := hg; omega
  have hbf := hel.bf (U := fun b => D b ∨ blk es[k].Ar = some b) (fun b hb => .inl hb) (fun g hg => .inr hg) (fun b hb => hb.elim (hO1.lt b) (hrb b))
  have HBF := Go.Lib.hid hbf
  have HUB : Hid (∀ b, (D b ∨ blk es[k].Ar = some b) → D b ∨ (base ≤ b ∧ b < W.heap.size)) := Go.Lib.hid (fun b hb => hb.elim .inl (fun h => .inr ⟨by
    rcases own_addr hel.row with ⟨hn', _⟩ | ⟨g2, hg2, h1, h2⟩
    · rw [hn'] at h; cases h
    · rw [hg2] at h; injection h with h; have h : g2 = b := h; omega, hrb b h⟩))
  have HC := Go.Lib.hid (bf_cells hO1.row k hk)
  have HU5 : Hid (∀ b', (D b' ∨ blk es[k].Ar = some b') → b' < w.heap.size ∧ b' ≠ gL) := Go.Lib.hid (fun b' hb' => by
    rcases hb' with h | h
    · exact ⟨HO.out.lt b' h, fun e' => HO.out.dl gL rfl (e' ▸ h)⟩
    · obtain ⟨rs2, hel2⟩ := HO.out.els _ (List.getElem_mem hk)
      have h3 := (HO.out.de _ (List.getElem_mem hk) b' h).2
      rcases own_addr hel2.row with ⟨hn', _⟩ | ⟨g2, hg2, h1, h2⟩
      · rw [hn'] at h; cases h
      · rw [hg2] at h; injection h with h; have h : g2 = b' := h
        exact ⟨by omega, fun e' => h3 (by rw [e']; rfl)⟩)
  clear h1 h2 h3 hO1 hel hrb hbf
  have i1 : (0 : Int) ≤ (k : Int) := by omega
  have i2 : (k : Int) < (es.length : Int) := by omega
  have i3 : (k : Int) < (p.list.length : Int) := by rw [HL.out]; exact i2
  generalize hx : es[k] = e at *
  clear hx
  obtain ⟨b, Ao, co, Ab, cb, Ar, cr⟩ := e
  dsimp only at HBF HUB HU5 hR ht1 ho htk
  have HRK := Go.Lib.hid hR
  have HTK := Go.Lib.hid htk
  clear hR htk
  have d3 := H1.out.cell 3 rfl
  cases hw : wholeB b
  · have HT : Hid (t = ⟨p, Pk.empty, false, 0⟩) := Go.Lib.hid (by rw [← HTK.out]; unfold tkO; rw [if_pos hw])
    go_wp2_with (first
      | (refine wpList_load_bf rfl _ rfl _ rfl b Ao co Ab cb Ar cr HC.out ?_)
      | (go_at_call 62; refine (cwhole b Ao co Ab cb Ar cr false hw W _ HBF.out HRK.out).mono ?_; rintro e4 w4 ⟨rfl, y4⟩; have K1 := Go.Lib.hid (H1.out.keep y4 H1.out.lt); have K2 := Go.Lib.hid (H2.out.keep y4 H2.out.lt); have K3 := Go.Lib.hid (H3.out.keep y4 H3.out.lt); dsimp only)
      | (refine wpList_load_box rfl 42 _ rfl w.heap.size rfl (poL p (some ⟨gL, 0, none⟩) c) _ K1.out Try.underlying42 rfl info_po ?_)
      | (refine wpList_store_whole rfl 42 _ _ rfl (w.heap.size + 1) _ (poL p (some ⟨gL, 0, none⟩) c) rfl rfl K2.out info_po rfl (by simp [Value.oneCell']) ?_; intro w5 hb5 ho5; have HB5 := Go.Lib.hid hb5; clear hb5)
      | (refine wpList_store_whole rfl 25 _ _ rfl (w.heap.size + 2) _ (pkL pk0 none 0 none 0) rfl rfl (K3.out.only ho5 (by omega)) info_pk rfl (by simp [Value.oneCell']) ?_; intro w6 hb6 ho6; have HB6 := Go.Lib.hid hb6; clear hb6))
    have y6 : Below w.heap.size w w6 := ((y0.trans (y4.mono y0.size)).trans (ho5.below (by omega))).trans (ho6.below (by omega))
    have hOF := HO.out.keepH y6.size (fun b hb => y6.block b (HO.out.lt b hb)) (fun b _ hb => y6.block b hb)
    have ltU : ∀ b, (D b ∨ (base ≤ b ∧ b < w6.heap.size)) → b < w6.heap.size := fun b hb => hb.elim (hOF.lt b) (fun h => h.2)
    refine bodyPost_ret (v := .tuple #[poV p (some ⟨gL, 0, none⟩) c, ipV Pk.empty none 0 none 0, .bool false, .int .i64 0]) (results_cctt (p := 4) (q := 5) (u := 6) (v := 7) rfl _ _ (w.heap.size + 1) (w.heap.size + 2) _ _ _ _ rfl rfl (HB5.out.only ho6 (by omega)) HB6.out Try.underlying42 rfl info_po Try.underlying25 rfl info_pk) rfl ?_
    rw [HT.out]
    exact ⟨some ⟨gL, 0, none⟩, c, none, 0, none, 0, rfl, ⟨hOF.po (fun b hb => .inl hb) (fun b h1 h2 => .inr ⟨h1, h2⟩) ltU p hp, pk_none _ _ ltU⟩, y6.mono hbase⟩
  · have hlen5 : (bodyR b.runs []).length ≤ 65535 := by have := (whole_flat hw).2; omega
    go_upto_region 4 with (first
      | (refine wpList_load_bf rfl _ rfl _ rfl b Ao co Ab cb Ar cr HC.out ?_)
      | (go_at_call 62; refine (cwhole b Ao co Ab cb Ar cr true hw W _ HBF.out HRK.out).mono ?_; rintro e4 w4 ⟨rfl, y4⟩; have K1 := Go.Lib.hid (H1.out.keep y4 H1.out.lt); have K2 := Go.Lib.hid (H2.out.keep y4 H2.out.lt); have K3 := Go.Lib.hid (H3.out.keep y4 H3.out.lt); have HO4 := Go.Lib.hid (HO1.out.keepH y4.size (fun b hb => y4.block b (HO1.out.lt b hb)) (fun b _ hb => y4.block b hb)); have HBF4 := Go.Lib.hid (HBF.out.at y4); clear d3; have d3 := K1.out.cell 3 rfl; dsimp only)
      | (refine wpList_load_bf rfl _ rfl _ rfl b Ao co Ab cb Ar cr (bfc HO4.out HEK.out) ?_)
      | (go_at_call 63; refine (cjoined b Ao co Ab cb Ar cr w4 _ HBF4.out hw ht1).mono ?_; rintro e5 w5 ⟨A5, c5, rfl, hp5, y5⟩; have HP5 := Go.Lib.hid hp5; have L1 := Go.Lib.hid (K1.out.keep y5 K1.out.lt); have L2 := Go.Lib.hid (K2.out.keep y5 K2.out.lt); have L3 := Go.Lib.hid (K3.out.keep y5 K3.out.lt); have HO5 := Go.Lib.hid (HO4.out.keepH y5.size (fun b hb => y5.block b (HO4.out.lt b hb)) (fun b _ hb => y5.block b hb)); clear hp5 d3; dsimp only)
      | (refine wpList_store_new rfl 25 _ _ rfl _ (pkL (outB b) Ao co A5 c5).toArray rfl rfl info_pk rfl (pk_one _ _ _ _ _) ?_))
    have y6 : Below w5.heap.size w5 (w5.alloc (oPk (outB b) Ao co A5 c5)) := (Below.refl _ _).alloc (Nat.le_refl _) _
    have B8 := Go.Lib.hid (Bxo.made w5 25 (pkL (outB b) Ao co A5 c5))
    have M1 := Go.Lib.hid (L1.out.keep y6 L1.out.lt)
    have M2 := Go.Lib.hid (L2.out.keep y6 L2.out.lt)
    have M3 := Go.Lib.hid (L3.out.keep y6 L3.out.lt)
    have HO6 := Go.Lib.hid (HO5.out.keepH y6.size (fun b hb => y6.block b (HO5.out.lt b hb)) (fun b _ hb => y6.block b hb))
    have HP6 := Go.Lib.hid (HP5.out.at y6)
    have z5 := y5.size
    have z4 := y4.size
    have e6 : (w5.alloc (oPk (outB b) Ao co A5 c5)).heap.size = w5.heap.size + 1 := by simp
    have Y6 : Hid (Below w.heap.size w (w5.alloc (oPk (outB b) Ao co A5 c5))) := Go.Lib.hid (((y0.trans (y4.mono y0.size)).trans (y5.mono (by omega))).trans (y6.mono (by omega)))
    generalize w5.alloc (oPk (outB b) Ao co A5 c5) = w6 at *
    have s6 : w5.heap.size < w6.heap.size := by omega
    have z6 := y6.size
    have d0 := M1.out.at
    clear d0
    have he0 : (p.list.eraseIdx k).length = p.list.length - 1 := by rw [List.length_eraseIdx, if_pos (by rw [HL.out]; exact hk)]
    have HEM : Hid ((es.eraseIdx k).map El.b = (eraP p k).list) := Go.Lib.hid (by show _ = p.list.eraseIdx k; rw [← hp]; simp [List.eraseIdx_eq_take_drop_succ, List.map_take, List.map_drop])
    clear he0
    go_upto_region 5 with (first
      | (refine wpList_load_box rfl 42 _ rfl w.heap.size rfl (poL p (some ⟨gL, 0, none⟩) c) _ M1.out Try.underlying42 rfl info_po ?_)
      | (go_at_call 34; refine (cwithout p gL c k es base w6 HO6.out.row hp hk hn).mono ?_; rintro e7 w7 ⟨rfl, hb7, hg7⟩; have HB7 := Go.Lib.hid hb7; have HG7 := Go.Lib.hid hg7; have N1 := Go.Lib.hid (M1.out.gro hg7 (by omega)); have N2 := Go.Lib.hid (M2.out.gro hg7 (by omega)); have N3 := Go.Lib.hid (M3.out.gro hg7 (by omega)); have N8 := Go.Lib.hid (B8.out.gro hg7 (by omega)); clear hb7 hg7; dsimp only)
      | (refine wpList_store_whole rfl 42 _ _ rfl w.heap.size _ (poL (eraP p k) (some ⟨gL, 0, none⟩) c) rfl rfl N1.out info_po rfl (by simp [Value.oneCell']) ?_; intro w8 hb8 ho8; have P1 := Go.Lib.hid hb8; have P2 := Go.Lib.hid (N2.out.only ho8 (by omega)); have P3 := Go.Lib.hid (N3.out.only ho8 (by omega)); have P8 := Go.Lib.hid (N8.out.only ho8 (by omega)); have HO8 := Go.Lib.hid ho8; clear hb8 ho8))
    have z7 := HG7.out.size
    have e8 := HO8.out.size
    have hkeep : ∀ b', growV (fun b' => D b' ∨ blk Ar = some b') w4 w5 b' → b' < w5.heap.size ∧ b' ≠ gL ∧ b' ≠ w.heap.size ∧ b' ≠ w.heap.size + 1 ∧ b' ≠ w.heap.size + 2 := fun b' hb' => by
      rcases hb' with h | h
      · have := HU5.out b' h; omega
      · omega
    have HKP := Go.Lib.hid hkeep
    clear hkeep
    have hh8 : ∀ b', growV (fun b' => D b' ∨ blk Ar = some b') w4 w5 b' → w8.heap[b']? = w6.heap[b']? := fun b' hb' => by
      have := HKP.out b' hb'
      exact (HO8.out.block b' (by omega)).trans (HG7.out.block b' (by omega) (by omega))
    have HP8 : Hid (PkAt w8 (growV (fun b' => D b' ∨ blk Ar = some b') w4 w5) (outB b) Ao co A5 c5) := Go.Lib.hid ⟨HP6.out.s0, HP6.out.s1, HP6.out.d0, HP6.out.d1, HP6.out.o.keepH hh8, HP6.out.b.keepH hh8, fun b' hb' => by have := HKP.out b' hb'; omega⟩
    have hOw7 := HO6.out.erase HB7.out HG7.out
    have HRB := Go.Lib.hid (fun e' (he' : e' ∈ es.eraseIdx k) g (hg : blk e'.Ar = some g) => HO.out.rlt e' (List.mem_of_mem_eraseIdx he') g hg)
    have HO8P := Go.Lib.hid (hOw7.keepR (w' := w8) (by omega) (fun b' hb' => HO8.out.block b' (by have := HU5.out b' (.inl hb'); omega)) (fun g hg => HO8.out.block g (by injection hg with hg; have hg : gL = g := hg; omega)) (fun e' he' g hg => HO8.out.block g (by have := HRB.out e' he' g hg; omega)))
    have zY := Y6.out.size
    have Y8 : Hid (Below base w w8) := Go.Lib.hid (((Y6.out.mono hbase).trans (HG7.out.below hL1 (by omega))).trans (HO8.out.below hbase))
    have HHZ : Hid ((outB b).opts.length ≤ 16777216 ∧ (outB b).body.length ≤ 16777216) := Go.Lib.hid ⟨by show b.head.opts.length ≤ _; omega, by show (bodyR b.runs []).length ≤ _; omega⟩
    cases hm : mayB (outB b)
    · have HT : Hid (t = ⟨eraP p k, Pk.empty, false, 7⟩) := Go.Lib.hid (by rw [← HTK.out]; unfold tkO; rw [if_neg (by rw [hw]; simp), if_neg (by rw [hm]; simp)])
      go_wp2_with (first
        | (refine wpList_load_pk rfl _ rfl ⟨w5.heap.size, 0, none⟩ rfl (outB b) Ao co A5 c5 P8.out.at ?_)
        | (go_at_call 30; refine (cmayPut (outB b) Ao co A5 c5 w8 _ false hm HP8.out HHZ.out.1 HHZ.out.2).mono ?_; rintro e9 w9 ⟨rfl, y9⟩; have Q1 := Go.Lib.hid (P1.out.keep y9 P1.out.lt); have Q2 := Go.Lib.hid (P2.out.keep y9 P2.out.lt); have Q3 := Go.Lib.hid (P3.out.keep y9 P3.out.lt); dsimp only)
        | (refine wpList_load_box rfl 42 _ rfl w.heap.size rfl (poL (eraP p k) (some ⟨gL, 0, none⟩) c) _ Q1.out Try.underlying42 rfl info_po ?_)
        | (refine wpList_store_whole rfl 42 _ _ rfl (w.heap.size + 1) _ (poL (eraP p k) (some ⟨gL, 0, none⟩) c) rfl rfl Q2.out info_po rfl (by simp [Value.oneCell']) ?_; intro w41 hb41 ho41; have HB41 := Go.Lib.hid hb41; clear hb41)
        | (refine wpList_store_whole rfl 25 _ _ rfl (w.heap.size + 2) _ (pkL pk0 none 0 none 0) rfl rfl (Q3.out.only ho41 (by omega)) info_pk rfl (by simp [Value.oneCell']) ?_; intro w42 hb42 ho42; have HB42 := Go.Lib.hid hb42; clear hb42))
      have z9 := y9.size
      have e41 := ho41.size
      have e42 := ho42.size
      have hh : ∀ b', b' < w.heap.size → w42.heap[b']? = w8.heap[b']? := fun b' hb' => ((ho42.block b' (by omega)).trans (ho41.block b' (by omega))).trans (y9.block b' (by omega))
      have hOF := HO8P.out.keepR (w' := w42) (by omega) (fun b' hb' => hh b' (HU5.out b' (.inl hb')).1) (fun g hg => hh g (by injection hg with hg; have hg : gL = g := hg; omega)) (fun e' he' g hg => hh g (HRB.out e' he' g hg))
      have ltU : ∀ b', (D b' ∨ (base ≤ b' ∧ b' < w42.heap.size)) → b' < w42.heap.size := fun b' hb => hb.elim (hOF.lt b') (fun h => h.2)
      refine bodyPost_ret (v := .tuple #[poV (eraP p k) (some ⟨gL, 0, none⟩) c, ipV Pk.empty none 0 none 0, .bool false, .int .i64 7]) (results_cctt (p := 4) (q := 5) (u := 6) (v := 7) rfl _ _ (w.heap.size + 1) (w.heap.size + 2) _ _ _ _ rfl rfl (HB41.out.only ho42 (by omega)) HB42.out Try.underlying42 rfl info_po Try.underlying25 rfl info_pk) rfl ?_
      rw [HT.out]
      exact ⟨some ⟨gL, 0, none⟩, c, none, 0, none, 0, rfl, ⟨hOF.po (fun b hb => .inl hb) (fun b h1 h2 => .inr ⟨h1, h2⟩) ltU (eraP p k) HEM.out, pk_none _ _ ltU⟩, ((Y8.out.trans (y9.mono (by omega))).trans (ho41.below (by omega))).trans (ho42.below (by omega))⟩
    · have HT : Hid (t = ⟨eraP p k, outB b, true, 0⟩) := Go.Lib.hid (by rw [← HTK.out]; unfold tkO; rw [if_neg (by rw [hw]; simp), if_pos hm])
      go_upto_region 7 with (first
        | (refine wpList_load_pk rfl _ rfl ⟨w5.heap.size, 0, none⟩ rfl (outB b) Ao co A5 c5 P8.out.at ?_)
        | (go_at_call 30; refine (cmayPut (outB b) Ao co A5 c5 w8 _ true hm HP8.out HHZ.out.1 HHZ.out.2).mono ?_; rintro e9 w9 ⟨rfl, y9⟩; have Q1 := Go.Lib.hid (P1.out.keep y9 P1.out.lt); have Q2 := Go.Lib.hid (P2.out.keep y9 P2.out.lt); have Q3 := Go.Lib.hid (P3.out.keep y9 P3.out.lt); have Q8 := Go.Lib.hid (P8.out.keep y9 P8.out.lt); dsimp only))
      try simp only [Act.put, List.setIfInBounds_toArray, List.set_cons_zero, List.set_cons_succ]
      refine wp_region_held_drew (S := fun Y => Bxo Y w.heap.size 42 (poL (eraP p k) (some ⟨gL, 0, none⟩) c) ∧ Bxo Y w5.heap.size 25 (pkL (outB b) Ao co A5 c5)) (by kernel_rfl) ?_ (fun hHeld => ?_)
      · exact ⟨Q1.out, Q8.out⟩
      refine wpAnyH_take (i := 0) (oi := ⟨some 32, _, _, _, _, _⟩) (v := .agg (poL (eraP p k) (some ⟨gL, 0, none⟩) c).toArray) rfl (by kernel_rfl) (by kernel_rfl) (by kernel_rfl) (fun _ _ _ h => h) (yieldsIf_load_at (by rfl) 42 _ rfl ⟨w.heap.size, 0, none⟩ rfl (poL (eraP p k) (some ⟨gL, 0, none⟩) c) _ (fun Y h => h.1.at) Try.underlying42 rfl info_po) (by assumption) ?_
      try simp only [Act.put, List.setIfInBounds_toArray, List.set_cons_zero, List.set_cons_succ]
      refine wpAnyH_take (i := 1) (oi := ⟨some 33, _, _, _, _, _⟩) (v := ipV (outB b) Ao co A5 c5) rfl (by kernel_rfl) (by kernel_rfl) (by kernel_rfl) (fun _ _ _ h => h) (yieldsIf_pk (by rfl) _ rfl ⟨w5.heap.size, 0, none⟩ rfl (outB b) Ao co A5 c5 (fun Y h => h.2.at)) (by assumption) ?_
      try simp only [Act.put, List.setIfInBounds_toArray, List.set_cons_zero, List.set_cons_succ]
      refine wpAnyH_ready (rs := [2]) (by kernel_rfl) (by simp) (AllReadyH.cons (o := ⟨none, _, _, _, _, _⟩) rfl (fun Kc hKc => ?_) AllReadyH.nil)
      rw [if_pos (by rfl)]
      refine step_store_whole 42 _ _ rfl (w.heap.size + 1) _ (poL (eraP p k) (some ⟨gL, 0, none⟩) c) rfl rfl Q2.out info_po rfl (by simp [Value.oneCell']) ?_; intro w41 hb41 ho41; have HB41 := Go.Lib.hid hb41; clear hb41
      refine hKc.out _ _ (⟨hHeld.1.only ho41 (by omega), hHeld.2.only ho41 (by omega)⟩) (fun hHeld => ?_)
      clear hKc Kc
      try simp only [Act.put, List.setIfInBounds_toArray, List.set_cons_zero, List.set_cons_succ]
      refine wpAnyH_ready (rs := [3]) (by kernel_rfl) (by simp) (AllReadyH.cons (o := ⟨none, _, _, _, _, _⟩) rfl (fun Kc hKc => ?_) AllReadyH.nil)
      rw [if_pos (by rfl)]
      refine step_store_whole 25 _ _ rfl (w.heap.size + 2) _ (pkL (outB b) Ao co A5 c5) rfl rfl ((show Bxo w9.drew (w.heap.size + 2) 25 _ from Q3.out).only ho41 (by omega)) info_pk rfl (by simp [Value.oneCell']) ?_; intro w42 hb42 ho42; have HB42 := Go.Lib.hid hb42; clear hb42
      refine hKc.out _ _ (⟨hHeld.1.only ho42 (by omega), hHeld.2.only ho42 (by omega)⟩) (fun hHeld => ?_)
      clear hKc Kc
      try simp only [Act.put, List.setIfInBounds_toArray, List.set_cons_zero, List.set_cons_succ]
      refine wpAnyH_take (i := 4) (oi := ⟨some 6, _, _, _, _, _⟩) (v := ?_) rfl (by kernel_rfl) (by kernel_rfl) (by kernel_rfl) (fun _ _ _ h => h) (Or.inl ⟨by rfl, ?_⟩) (by assumption) ?_
      rotate_left
      · intro w hSw; (try dsimp only at hSw); go_simp; (try with_reducible rfl)
      try simp only [Act.put, List.setIfInBounds_toArray, List.set_cons_zero, List.set_cons_succ]
      refine wpAnyH_take (i := 5) (oi := ⟨some 7, _, _, _, _, _⟩) (v := ?_) rfl (by kernel_rfl) (by kernel_rfl) (by kernel_rfl) (fun _ _ _ h => h) (Or.inl ⟨by rfl, ?_⟩) (by assumption) ?_
      rotate_left
      · intro w hSw; (try dsimp only at hSw); go_simp; (try with_reducible rfl)
      try simp only [Act.put, List.setIfInBounds_toArray, List.set_cons_zero, List.set_cons_succ]
      refine wpAnyH_done (by kernel_rfl) ?_ _
      go_wp2
      have z9 := y9.size
      have e41 : w41.heap.size = w9.heap.size := ho41.size
      have e42 := ho42.size
      have hh : ∀ b', b' < w.heap.size → w42.heap[b']? = w8.heap[b']? := fun b' hb' => ((ho42.block b' (by omega)).trans (ho41.block b' (by omega))).trans (y9.block b' (by omega))
      have hOF := HO8P.out.keepR (w' := w42) (by omega) (fun b' hb' => hh b' (HU5.out b' (.inl hb')).1) (fun g hg => hh g (by injection hg with hg; have hg : gL = g := hg; omega)) (fun e' he' g hg => hh g (HRB.out e' he' g hg))
      have ltU : ∀ b', (D b' ∨ (base ≤ b' ∧ b' < w42.heap.size)) → b' < w42.heap.size := fun b' hb => hb.elim (hOF.lt b') (fun h => h.2)
      have hh2 : ∀ b', growV (fun b' => D b' ∨ blk Ar = some b') w4 w5 b' → w42.heap[b']? = w8.heap[b']? := fun b' hb' => by
        have := HKP.out b' hb'
        exact ((ho42.block b' (by omega)).trans (ho41.block b' (by omega))).trans (y9.block b' (by omega))
      have hU2 : ∀ b', growV (fun b' => D b' ∨ blk Ar = some b') w4 w5 b' → D b' ∨ (base ≤ b' ∧ b' < w42.heap.size) := fun b' hb' => by
        have h1 := HKP.out b' hb'
        rcases hb' with h | h
        · rcases HUB.out b' h with h2 | h2
          · exact .inl h2
          · exact .inr ⟨h2.1, by omega⟩
        · exact .inr ⟨by omega, by omega⟩
      have hpk : PkAt w42 (fun b' => D b' ∨ (base ≤ b' ∧ b' < w42.heap.size)) (outB b) Ao co A5 c5 := ⟨HP8.out.s0, HP8.out.s1, HP8.out.d0, HP8.out.d1, (HP8.out.o.keepH hh2).more hU2, (HP8.out.b.keepH hh2).more hU2, ltU⟩
      refine bodyPost_ret (v := .tuple #[poV (eraP p k) (some ⟨gL, 0, none⟩) c, ipV (outB b) Ao co A5 c5, .bool true, .int .i64 0]) (results_cctt (p := 4) (q := 5) (u := 6) (v := 7) rfl _ _ (w.heap.size + 1) (w.heap.size + 2) _ _ _ _ rfl rfl (HB41.out.only ho42 (by omega)) HB42.out Try.underlying42 rfl info_po Try.underlying25 rfl info_pk) rfl ?_
      rw [HT.out]
      exact ⟨some ⟨gL, 0, none⟩, c, Ao, co, A5, c5, rfl, ⟨hOF.po (fun b hb => .inl hb) (fun b h1 h2 => .inr ⟨h1, h2⟩) ltU (eraP p k) HEM.out, hpk⟩, ((Y8.out.trans (y9.mono (by omega))).trans ((show Only (w.heap.size + 1) w9 w41 from ⟨ho41.os, ho41.tape, ho41.output, ho41.size, ho41.block⟩).below (by omega))).trans (ho42.below (by omega))⟩
end Go.Proofs.Ytmblkgnjcmneeaa
