/- Lemmas, several texts in one. -/
import Derived.Test.YtmblkgnjcmneeaaQ13
import Derived.Test.YtmblkgnjcmneeaaQ08
import Derived.Test.YtmblkgnjcmneeaaQ25
/- The contract of package reasm's Take: the ways that change nothing. -/
namespace Go.Proofs.Ytmblkgnjcmneeaa
open Go.ChangeShapes Go.WideShapes Go.ChangeAt Go.RowKit
set_option linter.unusedVariables false
set_option linter.unusedSimpArgs false

theorem PkAt.keepB {w w' : World} {V : Nat → Prop} {x : Pk} {A : Option Addr} {c : Nat} {A' : Option Addr} {c' : Nat} (h : PkAt w V x A c A' c') (hk : ∀ b, V b → w'.heap[b]? = w.heap[b]?) (hs : w.heap.size ≤ w'.heap.size) : PkAt w' V x A c A' c' :=
  ⟨h.s0, h.s1, h.d0, h.d1, h.o.keepH hk, h.b.keepH hk, fun b hb => Nat.lt_of_lt_of_le (h.lt b hb) hs⟩
theorem pk_end {w wy w5 wF wG : World} {V : Nat → Prop} {x : Pk} {A : Option Addr} {c : Nat} {A' : Option Addr} {c' : Nat} (h : PkAt w5 (growV V wy w5) x A c A' c') (hy : w.heap.size + 4 ≤ wy.heap.size) (vlt : ∀ b, V b → b < w.heap.size) (h5 : Only (w.heap.size + 2) w5 wF) (h6 : Only (w.heap.size + 3) wF wG) : PkAt wG (growV V w wG) x A c A' c' := by
  have s5 := h5.size
  have s6 := h6.size
  have hv : ∀ b, growV V wy w5 b → b < w5.heap.size ∧ b ≠ w.heap.size + 2 ∧ b ≠ w.heap.size + 3 := fun b hb => by
    have hl := h.lt b hb
    rcases hb with k | k
    · have := vlt b k; omega
    · omega
  have hh : ∀ b, growV V wy w5 b → wG.heap[b]? = w5.heap[b]? := fun b hb => (h6.block b (hv b hb).2.2).trans (h5.block b (hv b hb).2.1)
  have hU : ∀ b, growV V wy w5 b → growV V w wG b := fun b hb => by
    rcases hb with k | k
    · exact .inl k
    · exact .inr ⟨by omega, by omega⟩
  exact ⟨h.s0, h.s1, h.d0, h.d1, (h.o.keepH hh).more hU, (h.b.keepH hh).more hU, fun b hb => by
    rcases hb with k | k
    · have := h.lt b (.inl k); omega
    · exact k.2⟩
set_option maxRecDepth 100000 in
set_option maxHeartbeats 8000000 in
theorem ctake (p : Po) (A : Option Addr) (c : Nat) (x : Pk) (Ao : Option Addr) (co : Nat) (Ab : Option Addr) (cb : Nat) (w : World) (V : Nat → Prop) (t : Tk) (ht : takeP p x = t) (hP : PoAt w V p A c) (hX : PkAt w V x Ao co Ab cb) (hR : RightP p) (xo : x.opts.length ≤ 16777216) (xb : x.body.length ≤ 16777216) :
    Calls Try.prog 17 #[poV p A c, ipV x Ao co Ab cb] w fun e w' => ∃ A' c' Ao' co' Ab' cb', e = .returned (.tuple #[poV t.pool A' c', ipV t.out Ao' co' Ab' cb', .bool t.ok, .int .i64 t.err]) ∧
      PoAt w' (growV V w w') t.pool A' c' ∧ PkAt w' (growV V w w') t.out Ao' co' Ab' cb' ∧ Below w.heap.size w w' := by
  have HTK := Go.Lib.hid ht
  have HR := Go.Lib.hid hR
  clear ht hR
  have HVL := Go.Lib.hid hP.lt
  have y0 : Below w.heap.size w ((((w.alloc (oPo p A c)).alloc (oPk x Ao co Ab cb)).alloc (oPo po0 none 0)).alloc (oPk pk0 none 0 none 0)) := below_alloc (below_alloc (below_alloc (below_alloc (Below.refl _ _) (Nat.le_refl _) _) (by simp) _) (by simp; omega) _) (by simp; omega) _
  have h2 := (((Bxo.made w 42 (poL p A c)).alloc (oPk x Ao co Ab cb)).alloc (oPo po0 none 0)).alloc (oPk pk0 none 0 none 0)
  have h3 : Bxo ((((w.alloc (oPo p A c)).alloc (oPk x Ao co Ab cb)).alloc (oPo po0 none 0)).alloc (oPk pk0 none 0 none 0)) (w.heap.size + 1) 25 (pkL x Ao co Ab cb) := by
    have := ((Bxo.made (w.alloc (oPo p A c)) 25 (pkL x Ao co Ab cb)).alloc (oPo po0 none 0)).alloc (oPk pk0 none 0 none 0)
    simpa using this
  have h4 : Bxo ((((w.alloc (oPo p A c)).alloc (oPk x Ao co Ab cb)).alloc (oPo po0 none 0)).alloc (oPk pk0 none 0 none 0)) (w.heap.size + 2) 42 (poL po0 none 0) := by
    have := (Bxo.made ((w.alloc (oPo p A c)).alloc (oPk x Ao co Ab cb)) 42 (poL po0 none 0)).alloc (oPk pk0 none 0 none 0)
    simpa using this
  have h5 : Bxo ((((w.alloc (oPo p A c)).alloc (oPk x Ao co Ab cb)).alloc (oPo po0 none 0)).alloc (oPk pk0 none 0 none 0)) (w.heap.size + 3) 25 (pkL pk0 none 0 none 0) := by
    have := Bxo.made (((w.alloc (oPo p A c)).alloc (oPk x Ao co Ab cb)).alloc (oPo po0 none 0)) 25 (pkL pk0 none 0 none 0)
    simpa using this
  have hz : ((((w.alloc (oPo p A c)).alloc (oPk x Ao co Ab cb)).alloc (oPo po0 none 0)).alloc (oPk pk0 none 0 none 0)).heap.size = w.heap.size + 4 := by simp
  have hP0 := hP.at y0
  have hX0 := hX.at y0
  clear hP hX
  go_enter Try.func17, Try.ntmps17
  go_upto_region 1 with fail
  generalize ((((w.alloc (oPo p A c)).alloc (oPk x Ao co Ab cb)).alloc (oPo po0 none 0)).alloc (oPk pk0 none 0 none 0)) = W at *
  have H2 := Go.Lib.hid h2
  have H3 := Go.Lib.hid h3
  have H4 := Go.Lib.hid h4
  have H5 := Go.Lib.hid h5
  have HP := Go.Lib.hid hP0
  have HX := Go.Lib.hid hX0
  clear h2 h3 h4 h5 hP0 hX0
  go_upto_region 2 with (first
    | (refine wpList_load_box rfl 42 _ rfl w.heap.size rfl (poL p A c) _ H2.out Try.underlying42 rfl info_po ?_)
    | (go_at_call 27; refine (ccopyPool p A c W V HP.out HR.out.small).mono ?_; rintro e1 w1 ⟨A1, c1, rfl, ho1, y1⟩; have HO1 := Go.Lib.hid ho1; clear ho1; dsimp only)
    | (refine wpList_store_whole rfl 42 _ _ rfl w.heap.size _ (poL p A1 c1) rfl rfl (H2.out.keep y1 H2.out.lt) info_po rfl (by simp [Value.oneCell']) ?_; intro w2 hb2 ho2; have HB2 := Go.Lib.hid hb2; clear hb2))
  obtain ⟨es, D, hmap, hown, hdv⟩ := HO1.out
  have hs2 : Hid (TkS w V W.heap.size x Ao co Ab cb w2 p A1 c1 es D) := Go.Lib.hid (by
    have s1 := y1.size
    have s2 := ho2.size
    have hne : ∀ b, D b → b ≠ w.heap.size := fun b hb => (hdv b hb).elim (fun k => by have := HVL.out b k; omega) (fun k => by omega)
    have yb : Below w.heap.size w w2 := (y0.trans (y1.mono (by omega))).trans (ho2.below (Nat.le_refl _))
    have hp2 : PkAt w2 V x Ao co Ab cb := (HX.out.at y1).keepB (fun b hb => ho2.block b (by have := HVL.out b hb; omega)) (by omega)
    exact ⟨HB2.out, (H3.out.keep y1 H3.out.lt).only ho2 (by omega), (H4.out.keep y1 H4.out.lt).only ho2 (by omega), (H5.out.keep y1 H5.out.lt).only ho2 (by omega), hown.keepH (by omega) (fun b hb => ho2.block b (hne b hb)) (fun b h1 h2 => ho2.block b (by omega)), hmap, fun b hb => (hdv b hb).imp_right (fun k => ⟨k.1, by omega⟩), HVL.out, hp2, yb, by omega, by omega⟩)
  have HS := hs2
  clear hs2 hmap hown hdv HO1 H2 H3 H4 H5 HP HX HB2
  cases hpc : (x.mf || (x.off != 0))
  · have HT : Hid (t = ⟨p, x, true, 0⟩) := Go.Lib.hid (by rw [← HTK.out]; exact take_piece (by simpa using hpc))
    go_upto_region 3 with (first
      | (refine wpList_load_pk rfl _ rfl ⟨w.heap.size + 1, 0, none⟩ rfl x Ao co Ab cb HS.out.b3.at ?_)
      | (go_at_call 28; refine (cpiece x Ao co Ab cb w2).mono ?_; rintro e3 w3 ⟨he, y3⟩; rw [hpc] at he; subst he; have HS3 := Go.Lib.hid (HS.out.step y3); dsimp only))
    have HS3d := Go.Lib.hid (HS3.out.step (below_drew (Below.refl _ _)))
    try simp only [Act.put, List.setIfInBounds_toArray, List.set_cons_zero, List.set_cons_succ]
    refine wp_region_held_drew (S := fun Y => Bxo Y w.heap.size 42 (poL p A1 c1) ∧ Bxo Y (w.heap.size + 1) 25 (pkL x Ao co Ab cb)) (by kernel_rfl) ?_ (fun hHeld => ?_)
    · exact ⟨HS3d.out.b2, HS3d.out.b3⟩
    refine wpAnyH_take (i := 0) (oi := ⟨some 15, _, _, _, _, _⟩) (v := .agg (poL p A1 c1).toArray) rfl (by kernel_rfl) (by kernel_rfl) (by kernel_rfl) (fun _ _ _ h => h) (yieldsIf_load_at (by rfl) 42 _ rfl ⟨w.heap.size, 0, none⟩ rfl (poL p A1 c1) _ (fun Y h => h.1.at) Try.underlying42 rfl info_po) (by assumption) ?_
    try simp only [Act.put, List.setIfInBounds_toArray, List.set_cons_zero, List.set_cons_succ]
    refine wpAnyH_take (i := 1) (oi := ⟨some 16, _, _, _, _, _⟩) (v := ipV x Ao co Ab cb) rfl (by kernel_rfl) (by kernel_rfl) (by kernel_rfl) (fun _ _ _ h => h) (yieldsIf_pk (by rfl) _ rfl ⟨w.heap.size + 1, 0, none⟩ rfl x Ao co Ab cb (fun Y h => h.2.at)) (by assumption) ?_
    try simp only [Act.put, List.setIfInBounds_toArray, List.set_cons_zero, List.set_cons_succ]
    refine wpAnyH_ready (rs := [2]) (by kernel_rfl) (by simp) (AllReadyH.cons (o := ⟨some 17, _, _, _, _, _⟩) rfl (fun Kc hKc => ?_) AllReadyH.nil)
    go_simp
    go_at_call 29; refine (ccopyPacket x Ao co Ab cb _ V HS3d.out.pk xo xb).mono ?_; rintro e5 w5 ⟨A2, c2, A3, c3, rfl, hpk5, y5⟩; have HK5 := Go.Lib.hid hpk5; have HS5 := Go.Lib.hid (HS3d.out.step y5); clear hpk5; dsimp only
    refine hKc.out _ _ (⟨HS5.out.b2, HS5.out.b3⟩) (fun hHeld => ?_)
    clear hKc Kc
    try simp only [Act.put, List.setIfInBounds_toArray, List.set_cons_zero, List.set_cons_succ]
    refine wpAnyH_ready (rs := [3]) (by kernel_rfl) (by simp) (AllReadyH.cons (o := ⟨none, _, _, _, _, _⟩) rfl (fun Kc hKc => ?_) AllReadyH.nil)
    rw [if_pos (by rfl)]
    refine step_store_whole 42 _ _ rfl (w.heap.size + 2) _ (poL p A1 c1) rfl rfl HS5.out.b4 info_po rfl (by simp [Value.oneCell']) ?_; intro wF hbF hoF; have HBF := Go.Lib.hid hbF; clear hbF
    refine hKc.out _ _ (⟨hHeld.1.only hoF (by omega), hHeld.2.only hoF (by omega)⟩) (fun hHeld => ?_)
    clear hKc Kc
    try simp only [Act.put, List.setIfInBounds_toArray, List.set_cons_zero, List.set_cons_succ]
    refine wpAnyH_ready (rs := [4]) (by kernel_rfl) (by simp) (AllReadyH.cons (o := ⟨none, _, _, _, _, _⟩) rfl (fun Kc hKc => ?_) AllReadyH.nil)
    rw [if_pos (by rfl)]
    refine step_store_whole 25 _ _ rfl (w.heap.size + 3) _ (pkL x A2 c2 A3 c3) rfl rfl (HS5.out.b5.only hoF (by omega)) info_pk rfl (by simp [Value.oneCell']) ?_; intro wG hbG hoG; have HBG := Go.Lib.hid hbG; clear hbG
    refine hKc.out _ _ (⟨hHeld.1.only hoG (by omega), hHeld.2.only hoG (by omega)⟩) (fun hHeld => ?_)
    clear hKc Kc
    try simp only [Act.put, List.setIfInBounds_toArray, List.set_cons_zero, List.set_cons_succ]
    refine wpAnyH_take (i := 5) (oi := ⟨some 6, _, _, _, _, _⟩) (v := ?_) rfl (by kernel_rfl) (by kernel_rfl) (by kernel_rfl) (fun _ _ _ h => h) (Or.inl ⟨by rfl, ?_⟩) (by assumption) ?_
    rotate_left
    · intro w hSw; (try dsimp only at hSw); go_simp; (try with_reducible rfl)
    try simp only [Act.put, List.setIfInBounds_toArray, List.set_cons_zero, List.set_cons_succ]
    refine wpAnyH_take (i := 6) (oi := ⟨some 7, _, _, _, _, _⟩) (v := ?_) rfl (by kernel_rfl) (by kernel_rfl) (by kernel_rfl) (fun _ _ _ h => h) (Or.inl ⟨by rfl, ?_⟩) (by assumption) ?_
    rotate_left
    · intro w hSw; (try dsimp only at hSw); go_simp; (try with_reducible rfl)
    try simp only [Act.put, List.setIfInBounds_toArray, List.set_cons_zero, List.set_cons_succ]
    refine wpAnyH_done (by kernel_rfl) ?_ _
    go_wp2
    obtain ⟨hpo, hbel, hlt⟩ := HS5.out.end hoF hoG
    refine bodyPost_ret (v := .tuple #[poV p A1 c1, ipV x A2 c2 A3 c3, .bool true, .int .i64 0]) (results_cctt (p := 4) (q := 5) (u := 6) (v := 7) rfl _ _ (w.heap.size + 2) (w.heap.size + 3) _ _ _ _ rfl rfl (HBF.out.only hoG (by omega)) HBG.out Try.underlying42 rfl info_po Try.underlying25 rfl info_pk) rfl ?_
    rw [HT.out]
    exact ⟨A1, c1, A2, c2, A3, c3, rfl, hpo, pk_end HK5.out (by have := HS3d.out.b1; have := HS3d.out.b0; omega) HS5.out.vlt hoF hoG, hbel⟩

  · have hnp : Hid (¬ (x.mf = false ∧ x.off = 0)) := Go.Lib.hid (by rintro ⟨h1, h2⟩; rw [h1, h2] at hpc; cases hpc)
    go_upto_region 4 with (first
      | (refine wpList_load_pk rfl _ rfl ⟨w.heap.size + 1, 0, none⟩ rfl x Ao co Ab cb HS.out.b3.at ?_)
      | (go_at_call 28; refine (cpiece x Ao co Ab cb w2).mono ?_; rintro e3 w3 ⟨he, y3⟩; rw [hpc] at he; subst he; have HS3 := Go.Lib.hid (HS.out.step y3); dsimp only))
    have d10 := HS3.out.b3.cell 10 rfl
    by_cases hl : x.body.length = 0
    · have HT : Hid (t = ⟨p, Pk.empty, false, 1⟩) := Go.Lib.hid (by rw [← HTK.out]; exact take_arg hnp.out (.inr (.inr hl)))
      have hl' : ((x.body.length : Int) == 0) = true := by rw [hl]; rfl
      have HL := Go.Lib.hid hl
      clear hl
      go_upto_region 5 with (first
        | (refine wpList_load_box rfl 42 _ rfl w.heap.size rfl (poL p A1 c1) _ HS3.out.b2 Try.underlying42 rfl info_po ?_)
        | (go_at_call 26; refine (cright p A1 c1 w3 _ true ((rightP_iff p).2 HR.out) HS3.out.po (right_few HR.out)).mono ?_; rintro e4 w4 ⟨rfl, y4⟩; have HS4 := Go.Lib.hid (HS3.out.step y4); clear d10; have d10 := HS4.out.b3.cell 10 rfl; dsimp only))
      go_wp2_with (first
        | (refine wpList_load_box rfl 42 _ rfl w.heap.size rfl (poL p A1 c1) _ HS4.out.b2 Try.underlying42 rfl info_po ?_)
        | (refine wpList_store_whole rfl 42 _ _ rfl (w.heap.size + 2) _ (poL p A1 c1) rfl rfl HS4.out.b4 info_po rfl (by simp [Value.oneCell']) ?_; intro wF hbF hoF; have HBF := Go.Lib.hid hbF; clear hbF)
        | (refine wpList_store_whole rfl 25 _ _ rfl (w.heap.size + 3) _ (pkL pk0 none 0 none 0) rfl rfl (HS4.out.b5.only hoF (by omega)) info_pk rfl (by simp [Value.oneCell']) ?_; intro wG hbG hoG; have HBG := Go.Lib.hid hbG; clear hbG))
      obtain ⟨hpo, hbel, hlt⟩ := HS4.out.end hoF hoG
      refine bodyPost_ret (v := .tuple #[poV p A1 c1, ipV Pk.empty none 0 none 0, .bool false, .int .i64 1]) (results_cctt (p := 4) (q := 5) (u := 6) (v := 7) rfl _ _ (w.heap.size + 2) (w.heap.size + 3) _ _ _ _ rfl rfl (HBF.out.only hoG (by omega)) HBG.out Try.underlying42 rfl info_po Try.underlying25 rfl info_pk) rfl ?_
      rw [HT.out]
      exact ⟨A1, c1, none, 0, none, 0, rfl, hpo, pk_none _ _ hlt, hbel⟩
    · have hl' : ((x.body.length : Int) == 0) = false := by rw [beq_eq_false_iff_ne]; omega
      have HL := Go.Lib.hid hl
      clear hl
      cases hm : mayB x
      · have HT : Hid (t = ⟨p, Pk.empty, false, 1⟩) := Go.Lib.hid (by rw [← HTK.out]; exact take_arg hnp.out (.inr (.inl hm)))
        go_upto_region 5 with (first
          | (refine wpList_load_box rfl 42 _ rfl w.heap.size rfl (poL p A1 c1) _ HS3.out.b2 Try.underlying42 rfl info_po ?_)
          | (go_at_call 26; refine (cright p A1 c1 w3 _ true ((rightP_iff p).2 HR.out) HS3.out.po (right_few HR.out)).mono ?_; rintro e4 w4 ⟨rfl, y4⟩; have HS4 := Go.Lib.hid (HS3.out.step y4); clear d10; have d10 := HS4.out.b3.cell 10 rfl; dsimp only)
          | (refine wpList_load_pk rfl _ rfl ⟨w.heap.size + 1, 0, none⟩ rfl x Ao co Ab cb HS4.out.b3.at ?_)
          | (go_at_call 30; refine (cmayPut x Ao co Ab cb w4 V false hm HS4.out.pk xo xb).mono ?_; rintro e5 w5 ⟨rfl, y5⟩; have HS5 := Go.Lib.hid (HS4.out.step y5); dsimp only))
        go_wp2_with (first
          | (refine wpList_load_box rfl 42 _ rfl w.heap.size rfl (poL p A1 c1) _ HS5.out.b2 Try.underlying42 rfl info_po ?_)
          | (refine wpList_store_whole rfl 42 _ _ rfl (w.heap.size + 2) _ (poL p A1 c1) rfl rfl HS5.out.b4 info_po rfl (by simp [Value.oneCell']) ?_; intro wF hbF hoF; have HBF := Go.Lib.hid hbF; clear hbF)
          | (refine wpList_store_whole rfl 25 _ _ rfl (w.heap.size + 3) _ (pkL pk0 none 0 none 0) rfl rfl (HS5.out.b5.only hoF (by omega)) info_pk rfl (by simp [Value.oneCell']) ?_; intro wG hbG hoG; have HBG := Go.Lib.hid hbG; clear hbG))
        obtain ⟨hpo, hbel, hlt⟩ := HS5.out.end hoF hoG
        refine bodyPost_ret (v := .tuple #[poV p A1 c1, ipV Pk.empty none 0 none 0, .bool false, .int .i64 1]) (results_cctt (p := 4) (q := 5) (u := 6) (v := 7) rfl _ _ (w.heap.size + 2) (w.heap.size + 3) _ _ _ _ rfl rfl (HBF.out.only hoG (by omega)) HBG.out Try.underlying42 rfl info_po Try.underlying25 rfl info_pk) rfl ?_
        rw [HT.out]
        exact ⟨A1, c1, none, 0, none, 0, rfl, hpo, pk_none _ _ hlt, hbel⟩
      · go_upto_region 6 with (first
          | (refine wpList_load_box rfl 42 _ rfl w.heap.size rfl (poL p A1 c1) _ HS3.out.b2 Try.underlying42 rfl info_po ?_)
          | (go_at_call 26; refine (cright p A1 c1 w3 _ true ((rightP_iff p).2 HR.out) HS3.out.po (right_few HR.out)).mono ?_; rintro e4 w4 ⟨rfl, y4⟩; have HS4 := Go.Lib.hid (HS3.out.step y4); clear d10; have d10 := HS4.out.b3.cell 10 rfl; dsimp only)
          | (refine wpList_load_pk rfl _ rfl ⟨w.heap.size + 1, 0, none⟩ rfl x Ao co Ab cb HS4.out.b3.at ?_)
          | (go_at_call 30; refine (cmayPut x Ao co Ab cb w4 V true hm HS4.out.pk xo xb).mono ?_; rintro e5 w5 ⟨rfl, y5⟩; have HS5 := Go.Lib.hid (HS4.out.step y5); dsimp only))
        have HMB := Go.Lib.hid ((mayB_iff x).1 hm)
        have HNA : Hid (¬ (rightP p = false ∨ mayB x = false ∨ x.body.length = 0)) := Go.Lib.hid (by
          rintro (h | h | h)
          · rw [(rightP_iff p).2 HR.out] at h; cases h
          · rw [hm] at h; cases h
          · exact HL.out h)
        clear hm d10 hl'
        have HS5d := Go.Lib.hid (HS5.out.step (below_drew (Below.refl _ _)))
        obtain ⟨k, hk⟩ : ∃ k, findB p.list (nmX x) = k := ⟨_, rfl⟩
        have HKF := Go.Lib.hid hk
        have hkle : k ≤ p.list.length := by rw [← hk]; exact findB_le _ _
        have hfew := HR.out.few
        clear hk
        try simp only [Act.put, List.setIfInBounds_toArray, List.set_cons_zero, List.set_cons_succ]
        refine wp_region_held_drew (S := fun Y => Bxo Y w.heap.size 42 (poL p A1 c1) ∧ Bxo Y (w.heap.size + 1) 25 (pkL x Ao co Ab cb)) (by kernel_rfl) ?_ (fun hHeld => ?_)
        · exact ⟨HS5d.out.b2, HS5d.out.b3⟩
        refine wpAnyH_take (i := 0) (oi := ⟨some 34, _, _, _, _, _⟩) (v := ?_) rfl (by kernel_rfl) (by kernel_rfl) (by kernel_rfl) (fun _ _ _ h => h) (Or.inl ⟨by rfl, ?_⟩) (by assumption) ?_
        rotate_left
        · intro w hSw; (try dsimp only at hSw); go_simp; (try with_reducible rfl)
        try simp only [Act.put, List.setIfInBounds_toArray, List.set_cons_zero, List.set_cons_succ]
        refine wpAnyH_take (i := 1) (oi := ⟨some 35, _, _, _, _, _⟩) (v := ?_) rfl (by kernel_rfl) (by kernel_rfl) (by kernel_rfl) (fun _ _ _ h => h) (Or.inl ⟨by rfl, ?_⟩) (by assumption) ?_
        rotate_left
        · intro w hSw; have x3 := hSw.1.cell 3 rfl; (try dsimp only at hSw); go_simp; (try with_reducible rfl)
        try simp only [Act.put, List.setIfInBounds_toArray, List.set_cons_zero, List.set_cons_succ]
        refine wpAnyH_take (i := 2) (oi := ⟨some 36, _, _, _, _, _⟩) (v := ipV x Ao co Ab cb) rfl (by kernel_rfl) (by kernel_rfl) (by kernel_rfl) (fun _ _ _ h => h) (yieldsIf_pk (by rfl) _ rfl ⟨w.heap.size + 1, 0, none⟩ rfl x Ao co Ab cb (fun Y h => h.2.at)) (by assumption) ?_
        try simp only [Act.put, List.setIfInBounds_toArray, List.set_cons_zero, List.set_cons_succ]
        refine wpAnyH_ready (rs := [3]) (by kernel_rfl) (by simp) (AllReadyH.cons (o := ⟨some 37, _, _, _, _, _⟩) rfl (fun Kc hKc => ?_) AllReadyH.nil)
        go_simp
        go_at_call 32; refine (cnameOfPiece x Ao co Ab cb _).mono ?_; rintro e6 w6 ⟨rfl, y6⟩; have HS6 := Go.Lib.hid (HS5d.out.step y6); dsimp only
        refine hKc.out _ _ (⟨HS6.out.b2, HS6.out.b3⟩) (fun hHeld => ?_)
        clear hKc Kc
        try simp only [Act.put, List.setIfInBounds_toArray, List.set_cons_zero, List.set_cons_succ]
        refine wpAnyH_ready (rs := [4]) (by kernel_rfl) (by simp) (AllReadyH.cons (o := ⟨some 38, _, _, _, _, _⟩) rfl (fun Kc hKc => ?_) AllReadyH.nil)
        go_simp
        go_at_call 31; refine (cfindN p.list A1 c1 _ rfl (nmX x) k HKF.out w6 _ HS6.out.po.ls).mono ?_; rintro e7 w7 ⟨rfl, y7⟩; have HS7 := Go.Lib.hid (HS6.out.step y7); dsimp only
        refine hKc.out _ _ (⟨HS7.out.b2, HS7.out.b3⟩) (fun hHeld => ?_)
        clear hKc Kc
        try simp only [Act.put, List.setIfInBounds_toArray, List.set_cons_zero, List.set_cons_succ]
        refine wpAnyH_take (i := 5) (oi := ⟨some 8, _, _, _, _, _⟩) (v := ?_) rfl (by kernel_rfl) (by kernel_rfl) (by kernel_rfl) (fun _ _ _ h => h) (Or.inl ⟨by rfl, ?_⟩) (by assumption) ?_
        rotate_left
        · intro w hSw; (try dsimp only at hSw); go_simp; (try with_reducible rfl)
        try simp only [Act.put, List.setIfInBounds_toArray, List.set_cons_zero, List.set_cons_succ]
        refine wpAnyH_done (by kernel_rfl) ?_ _
        have d3 := HS7.out.b2.cell 3 rfl
        by_cases hkl : k < p.list.length
        · have hq7 : ((k : Int) == (p.list.length : Int)) = false := by rw [beq_eq_false_iff_ne]; omega
          go_upto_region 8 with fail
          have hes : es.length = p.list.length := by rw [← HS7.out.map, List.length_map]
          obtain ⟨gL, hA1, hL1, hL2⟩ := (own_addr HS7.out.own.row).resolve_left (by rintro ⟨_, h, _⟩; omega)
          subst hA1
          obtain ⟨e, he⟩ : ∃ e, es[k]? = some e := ⟨_, List.getElem?_eq_getElem (by omega)⟩
          have h1 : p.list[k]? = some e.b := by rw [← HS7.out.map, List.getElem?_map, he]; rfl
          have heb : e.b = ownP p x := by
            have h2 := (find_some (p := p) (x := x) (by rw [HKF.out]; exact hkl)).2.2
            have h3 : p.list[findB p.list (nmX x)]? = some (ownP p x) := by rw [h2]; exact List.getElem?_eq_getElem _
            rw [HKF.out, h1] at h3
            exact Option.some.inj h3
          have HG := Go.Lib.hid (HR.out.good _ (List.mem_of_getElem? h1))
          have HEK := Go.Lib.hid he
          have HEB := Go.Lib.hid heb
          clear he heb h1 d3
          obtain ⟨b, Bo, bo, Bb, bb, Br, br⟩ := e
          dsimp only at HG HEB
          obtain ⟨q, hq⟩ : ∃ q, clashB b x = q := ⟨_, rfl⟩
          have HQ := Go.Lib.hid hq
          clear hq
          have i1 : (0 : Int) ≤ (k : Int) := by omega
          have i2 : (k : Int) < (p.list.length : Int) := by omega
          have HS7d := Go.Lib.hid (HS7.out.step (below_drew (Below.refl _ _)))
          try simp only [Act.put, List.setIfInBounds_toArray, List.set_cons_zero, List.set_cons_succ]
          refine wp_region_held_drew (S := fun Y => TkS w V W.heap.size x Ao co Ab cb Y p (some ⟨gL, 0, none⟩) c1 es D) (by kernel_rfl) ?_ (fun hHeld => ?_)
          · exact HS7d.out
          refine wpAnyH_take (i := 0) (oi := ⟨some 44, _, _, _, _, _⟩) (v := ?_) rfl (by kernel_rfl) (by kernel_rfl) (by kernel_rfl) (fun _ _ _ h => h) (Or.inl ⟨by rfl, ?_⟩) (by assumption) ?_
          rotate_left
          · intro w hSw; (try dsimp only at hSw); go_simp; (try with_reducible rfl)
          try simp only [Act.put, List.setIfInBounds_toArray, List.set_cons_zero, List.set_cons_succ]
          refine wpAnyH_take (i := 1) (oi := ⟨some 45, _, _, _, _, _⟩) (v := ?_) rfl (by kernel_rfl) (by kernel_rfl) (by kernel_rfl) (fun _ _ _ h => h) (Or.inl ⟨by rfl, ?_⟩) (by assumption) ?_
          rotate_left
          · intro w hSw; (try dsimp only at hSw); go_simp; (try with_reducible rfl)
          try simp only [Act.put, List.setIfInBounds_toArray, List.set_cons_zero, List.set_cons_succ]
          refine wpAnyH_take (i := 2) (oi := ⟨some 46, _, _, _, _, _⟩) (v := ?_) rfl (by kernel_rfl) (by kernel_rfl) (by kernel_rfl) (fun _ _ _ h => h) (Or.inl ⟨by rfl, ?_⟩) (by assumption) ?_
          rotate_left
          · intro w hSw; (try dsimp only at hSw); go_simp; (try with_reducible rfl)
          try simp only [Act.put, List.setIfInBounds_toArray, List.set_cons_zero, List.set_cons_succ]
          refine wpAnyH_take (i := 3) (oi := ⟨some 47, _, _, _, _, _⟩) (v := ?_) rfl (by kernel_rfl) (by kernel_rfl) (by kernel_rfl) (fun _ _ _ h => h) (Or.inl ⟨by rfl, ?_⟩) (by assumption) ?_
          rotate_left
          · intro w hSw; (try dsimp only at hSw); go_simp; (try with_reducible rfl)
          try simp only [Act.put, List.setIfInBounds_toArray, List.set_cons_zero, List.set_cons_succ]
          refine wpAnyH_take (i := 4) (oi := ⟨some 48, _, _, _, _, _⟩) (v := ?_) rfl (by kernel_rfl) (by kernel_rfl) (by kernel_rfl) (fun _ _ _ h => h) (Or.inl ⟨by rfl, ?_⟩) (by assumption) ?_
          rotate_left
          · intro w hSw; have x3 := hSw.b2.cell 3 rfl; (try dsimp only at hSw); go_simp; (try with_reducible rfl)
          try simp only [Act.put, List.setIfInBounds_toArray, List.set_cons_zero, List.set_cons_succ]
          refine wpAnyH_take (i := 5) (oi := ⟨some 49, _, _, _, _, _⟩) (v := ?_) rfl (by kernel_rfl) (by kernel_rfl) (by kernel_rfl) (fun _ _ _ h => h) (Or.inl ⟨by rfl, ?_⟩) (by assumption) ?_
          rotate_left
          · intro w hSw; (try dsimp only at hSw); go_simp; (try with_reducible rfl)
          try simp only [Act.put, List.setIfInBounds_toArray, List.set_cons_zero, List.set_cons_succ]
          refine wpAnyH_take (i := 6) (oi := ⟨some 50, _, _, _, _, _⟩) (v := ?_) rfl (by kernel_rfl) (by kernel_rfl) (by kernel_rfl) (fun _ _ _ h => h) (Or.inl ⟨by rfl, ?_⟩) (by assumption) ?_
          rotate_left
          · intro w hSw; (try dsimp only at hSw); go_simp; (try with_reducible rfl)
          try simp only [Act.put, List.setIfInBounds_toArray, List.set_cons_zero, List.set_cons_succ]
          refine wpAnyH_take (i := 7) (oi := ⟨some 51, _, _, _, _, _⟩) (v := bfV b Bo bo Bb bb Br br) rfl (by kernel_rfl) (by kernel_rfl) (by kernel_rfl) (fun _ _ _ h => h) (yieldsIf_bf (by rfl) _ rfl ⟨gL, k * 19, none⟩ rfl b Bo bo Bb bb Br br (fun Y h => bfc h.own HEK.out)) (by assumption) ?_
          try simp only [Act.put, List.setIfInBounds_toArray, List.set_cons_zero, List.set_cons_succ]
          refine wpAnyH_take (i := 8) (oi := ⟨some 52, _, _, _, _, _⟩) (v := ipV x Ao co Ab cb) rfl (by kernel_rfl) (by kernel_rfl) (by kernel_rfl) (fun _ _ _ h => h) (yieldsIf_pk (by rfl) _ rfl ⟨w.heap.size + 1, 0, none⟩ rfl x Ao co Ab cb (fun Y h => h.b3.at)) (by assumption) ?_
          try simp only [Act.put, List.setIfInBounds_toArray, List.set_cons_zero, List.set_cons_succ]
          refine wpAnyH_ready (rs := [9]) (by kernel_rfl) (by simp) (AllReadyH.cons (o := ⟨some 53, _, _, _, _, _⟩) rfl (fun Kc hKc => ?_) AllReadyH.nil)
          go_simp
          go_at_call 33; refine (cclashes b Bo bo Bb bb Br br x Ao co Ab cb q HQ.out _ _ (HS7d.out.el HEK.out) HG.out.runs HG.out.t0 HMB.out.o0 (by have := HMB.out.o1; omega) xb).mono ?_; rintro e8 w8 ⟨rfl, y8⟩; have HS8 := Go.Lib.hid (HS7d.out.step y8); dsimp only
          refine hKc.out _ _ (HS8.out) (fun hHeld => ?_)
          clear hKc Kc
          try simp only [Act.put, List.setIfInBounds_toArray, List.set_cons_zero, List.set_cons_succ]
          refine wpAnyH_take (i := 10) (oi := ⟨some 54, _, _, _, _, _⟩) (v := ?_) rfl (by kernel_rfl) (by kernel_rfl) (by kernel_rfl) (fun _ _ _ h => h) (Or.inl ⟨by rfl, ?_⟩) (by assumption) ?_
          rotate_left
          · intro w hSw; (try dsimp only at hSw); go_simp; (try with_reducible rfl)
          try simp only [Act.put, List.setIfInBounds_toArray, List.set_cons_zero, List.set_cons_succ]
          refine wpAnyH_done (by kernel_rfl) ?_ _
          cases q
          · go_upto_region 10 with fail
            have hq10 : ((k : Int) == 64) = false := by rw [beq_eq_false_iff_ne]; omega
            have hh0 : (heldP p : Int) ≤ 1048576 := Int.le_trans HR.out.fits HR.out.r1
            have hh1 : (x.body.length : Int) ≤ 65535 := by have := HMB.out.fit; have := HMB.out.o0; omega
            have hwr : IntKind.i64.wrap ((heldP p : Int) + (x.body.length : Int)) = (heldP p : Int) + (x.body.length : Int) := IntWalk.i64_in _ (by omega)
            have HS8d := Go.Lib.hid (HS8.out.step (below_drew (Below.refl _ _)))
            try simp only [Act.put, List.setIfInBounds_toArray, List.set_cons_zero, List.set_cons_succ]
            refine wp_region_held_drew (S := fun Y => TkS w V W.heap.size x Ao co Ab cb Y p (some ⟨gL, 0, none⟩) c1 es D) (by kernel_rfl) ?_ (fun hHeld => ?_)
            · exact HS8d.out
            refine wpAnyH_take (i := 0) (oi := ⟨some 59, _, _, _, _, _⟩) (v := ?_) rfl (by kernel_rfl) (by kernel_rfl) (by kernel_rfl) (fun _ _ _ h => h) (Or.inl ⟨by rfl, ?_⟩) (by assumption) ?_
            rotate_left
            · intro w hSw; (try dsimp only at hSw); go_simp; (try with_reducible rfl)
            try simp only [Act.put, List.setIfInBounds_toArray, List.set_cons_zero, List.set_cons_succ]
            refine wpAnyH_take (i := 1) (oi := ⟨some 60, _, _, _, _, _⟩) (v := ?_) rfl (by kernel_rfl) (by kernel_rfl) (by kernel_rfl) (fun _ _ _ h => h) (Or.inl ⟨by rfl, ?_⟩) (by assumption) ?_
            rotate_left
            · intro w hSw; (try dsimp only at hSw); go_simp; (try with_reducible rfl)
            try simp only [Act.put, List.setIfInBounds_toArray, List.set_cons_zero, List.set_cons_succ]
            refine wpAnyH_take (i := 2) (oi := ⟨some 61, _, _, _, _, _⟩) (v := ?_) rfl (by kernel_rfl) (by kernel_rfl) (by kernel_rfl) (fun _ _ _ h => h) (Or.inl ⟨by rfl, ?_⟩) (by assumption) ?_
            rotate_left
            · intro w hSw; (try dsimp only at hSw); go_simp; (try with_reducible rfl)
            try simp only [Act.put, List.setIfInBounds_toArray, List.set_cons_zero, List.set_cons_succ]
            refine wpAnyH_take (i := 3) (oi := ⟨some 62, _, _, _, _, _⟩) (v := .agg (poL p (some ⟨gL, 0, none⟩) c1).toArray) rfl (by kernel_rfl) (by kernel_rfl) (by kernel_rfl) (fun _ _ _ h => h) (yieldsIf_load_at (by rfl) 42 _ rfl ⟨w.heap.size, 0, none⟩ rfl (poL p (some ⟨gL, 0, none⟩) c1) _ (fun Y h => h.b2.at) Try.underlying42 rfl info_po) (by assumption) ?_
            try simp only [Act.put, List.setIfInBounds_toArray, List.set_cons_zero, List.set_cons_succ]
            refine wpAnyH_take (i := 5) (oi := ⟨some 64, _, _, _, _, _⟩) (v := ?_) rfl (by kernel_rfl) (by kernel_rfl) (by kernel_rfl) (fun _ _ _ h => h) (Or.inl ⟨by rfl, ?_⟩) (by assumption) ?_
            rotate_left
            · intro w hSw; (try dsimp only at hSw); go_simp; (try with_reducible rfl)
            try simp only [Act.put, List.setIfInBounds_toArray, List.set_cons_zero, List.set_cons_succ]
            refine wpAnyH_take (i := 6) (oi := ⟨some 65, _, _, _, _, _⟩) (v := ?_) rfl (by kernel_rfl) (by kernel_rfl) (by kernel_rfl) (fun _ _ _ h => h) (Or.inl ⟨by rfl, ?_⟩) (by assumption) ?_
            rotate_left
            · intro w hSw; have x10 := hSw.b3.cell 10 rfl; (try dsimp only at hSw); go_simp; (try with_reducible rfl)
            try simp only [Act.put, List.setIfInBounds_toArray, List.set_cons_zero, List.set_cons_succ]
            refine wpAnyH_take (i := 7) (oi := ⟨some 66, _, _, _, _, _⟩) (v := ?_) rfl (by kernel_rfl) (by kernel_rfl) (by kernel_rfl) (fun _ _ _ h => h) (Or.inl ⟨by rfl, ?_⟩) (by assumption) ?_
            rotate_left
            · intro w hSw; (try dsimp only at hSw); go_simp; (try with_reducible rfl)
            try simp only [Act.put, List.setIfInBounds_toArray, List.set_cons_zero, List.set_cons_succ]
            refine wpAnyH_take (i := 9) (oi := ⟨some 68, _, _, _, _, _⟩) (v := ?_) rfl (by kernel_rfl) (by kernel_rfl) (by kernel_rfl) (fun _ _ _ h => h) (Or.inl ⟨by rfl, ?_⟩) (by assumption) ?_
            rotate_left
            · intro w hSw; (try dsimp only at hSw); go_simp; (try with_reducible rfl)
            try simp only [Act.put, List.setIfInBounds_toArray, List.set_cons_zero, List.set_cons_succ]
            refine wpAnyH_take (i := 10) (oi := ⟨some 69, _, _, _, _, _⟩) (v := ?_) rfl (by kernel_rfl) (by kernel_rfl) (by kernel_rfl) (fun _ _ _ h => h) (Or.inl ⟨by rfl, ?_⟩) (by assumption) ?_
            rotate_left
            · intro w hSw; have x0 := hSw.b2.cell 0 rfl; (try dsimp only at hSw); go_simp; (try with_reducible rfl)
            try simp only [Act.put, List.setIfInBounds_toArray, List.set_cons_zero, List.set_cons_succ]
            refine wpAnyH_ready (rs := [4]) (by kernel_rfl) (by simp) (AllReadyH.cons (o := ⟨some 63, _, _, _, _, _⟩) rfl (fun Kc hKc => ?_) AllReadyH.nil)
            go_simp
            go_at_call 35; refine (cheld p (some ⟨gL, 0, none⟩) c1 _ _ HS8d.out.po (right_few HR.out)).mono ?_; rintro e9 w9 ⟨rfl, y9⟩; have HS9 := Go.Lib.hid (HS8d.out.step y9); dsimp only
            refine hKc.out _ _ (HS9.out) (fun hHeld => ?_)
            clear hKc Kc
            try simp only [Act.put, List.setIfInBounds_toArray, List.set_cons_zero, List.set_cons_succ]
            refine wpAnyH_take (i := 8) (oi := ⟨some 67, _, _, _, _, _⟩) (v := ?_) rfl (by kernel_rfl) (by kernel_rfl) (by kernel_rfl) (fun _ _ _ h => h) (Or.inl ⟨by rfl, ?_⟩) (by assumption) ?_
            rotate_left
            · intro w hSw; (try dsimp only at hSw); go_simp; (try with_reducible rfl)
            try simp only [Act.put, List.setIfInBounds_toArray, List.set_cons_zero, List.set_cons_succ]
            refine wpAnyH_take (i := 11) (oi := ⟨some 70, _, _, _, _, _⟩) (v := ?_) rfl (by kernel_rfl) (by kernel_rfl) (by kernel_rfl) (fun _ _ _ h => h) (Or.inl ⟨by rfl, ?_⟩) (by assumption) ?_
            rotate_left
            · intro w hSw; (try dsimp only at hSw); go_simp; (try with_reducible rfl)
            try simp only [Act.put, List.setIfInBounds_toArray, List.set_cons_zero, List.set_cons_succ]
            refine wpAnyH_take (i := 12) (oi := ⟨some 71, _, _, _, _, _⟩) (v := ?_) rfl (by kernel_rfl) (by kernel_rfl) (by kernel_rfl) (fun _ _ _ h => h) (Or.inl ⟨by rfl, ?_⟩) (by assumption) ?_
            rotate_left
            · intro w hSw; (try dsimp only at hSw); go_simp; (try with_reducible rfl)
            try simp only [Act.put, List.setIfInBounds_toArray, List.set_cons_zero, List.set_cons_succ]
            refine wpAnyH_done (by kernel_rfl) ?_ _
            by_cases hf : p.room < (heldP p : Int) + (x.body.length : Int)
            · have HT : Hid (t = ⟨p, Pk.empty, false, 8⟩) := Go.Lib.hid (by rw [← HTK.out]; exact take_full hnp.out HNA.out (by rw [← HEB.out]; exact HQ.out) (.inr hf))
              have hf' : decide (p.room < (heldP p : Int) + (x.body.length : Int)) = true := decide_eq_true hf
              go_wp2_with (first
                | (refine wpList_load_box rfl 42 _ rfl w.heap.size rfl (poL p (some ⟨gL, 0, none⟩) c1) _ HS9.out.b2 Try.underlying42 rfl info_po ?_)
                | (refine wpList_store_whole rfl 42 _ _ rfl (w.heap.size + 2) _ (poL p (some ⟨gL, 0, none⟩) c1) rfl rfl HS9.out.b4 info_po rfl (by simp [Value.oneCell']) ?_; intro wF hbF hoF; have HBF := Go.Lib.hid hbF; clear hbF)
                | (refine wpList_store_whole rfl 25 _ _ rfl (w.heap.size + 3) _ (pkL pk0 none 0 none 0) rfl rfl (HS9.out.b5.only hoF (by omega)) info_pk rfl (by simp [Value.oneCell']) ?_; intro wG hbG hoG; have HBG := Go.Lib.hid hbG; clear hbG))
              obtain ⟨hpo, hbel, hlt⟩ := HS9.out.end hoF hoG
              refine bodyPost_ret (v := .tuple #[poV p (some ⟨gL, 0, none⟩) c1, ipV Pk.empty none 0 none 0, .bool false, .int .i64 8]) (results_cctt (p := 4) (q := 5) (u := 6) (v := 7) rfl _ _ (w.heap.size + 2) (w.heap.size + 3) _ _ _ _ rfl rfl (HBF.out.only hoG (by omega)) HBG.out Try.underlying42 rfl info_po Try.underlying25 rfl info_pk) rfl ?_
              rw [HT.out]
              exact ⟨some ⟨gL, 0, none⟩, c1, none, 0, none, 0, rfl, hpo, pk_none _ _ hlt, hbel⟩
            · have hf' : decide (p.room < (heldP p : Int) + (x.body.length : Int)) = false := decide_eq_false hf
              go_upto_region 14 with fail
              have HS9d := Go.Lib.hid (HS9.out.step (below_drew (Below.refl _ _)))
              obtain ⟨rs, hel⟩ := HS9d.out.own.els _ (List.mem_of_getElem? HEK.out)
              have HEL := Go.Lib.hid hel
              have HBR : Hid (∀ g, blk Br = some g → W.heap.size ≤ g) := Go.Lib.hid (fun g hg => by
                rcases own_addr HEL.out.row with ⟨hn', _⟩ | ⟨g2, hg2, h1, h2⟩
                · have hn' : Br = none := hn'
                  rw [hn'] at hg; cases hg
                · have hg2 : Br = some ⟨g2, 0, none⟩ := hg2
                  rw [hg2] at hg; injection hg with hg; have hg : g2 = g := hg; omega)
              have HBR : Hid (∀ g, blk Br = some g → ¬ g < W.heap.size) := Go.Lib.hid (fun g hg => by have := HBR.out g hg; omega)
              have HDE : Hid (∀ g, blk Br = some g → ¬ D g) := Go.Lib.hid (fun g hg => (HS9d.out.own.de _ (List.mem_of_getElem? HEK.out) g hg).1)
              have HBG : Hid (∀ g, blk Br = some g → ¬ blk (some (⟨gL, 0, none⟩ : Addr)) = some g) := Go.Lib.hid (fun g hg => (HS9d.out.own.de _ (List.mem_of_getElem? HEK.out) g hg).2)
              have HVR : Hid (∀ g, blk Br = some g → ¬ V g) := Go.Lib.hid (fun g hg hv => by have := HBR.out g hg; have := HVL.out g hv; omega)
              have HRN : Hid (b.runs.length ≤ 1048576) := Go.Lib.hid (by
                have h1 := held_len _ _ _ HG.out.runs
                have h2 : heldR b.runs ≤ heldL p.list := held_bf (by
                  have := List.mem_of_getElem? HEK.out
                  rw [← HS9d.out.map]
                  exact List.mem_map_of_mem (f := El.b) this)
                have h3 : (heldL p.list : Int) ≤ 1048576 := hh0
                omega)
              have HXB : Hid (x.body.length ≤ 65535) := Go.Lib.hid (by omega)
              have HNE : Hid (∀ r ∈ b.runs, r.off ≠ x.off) := Go.Lib.hid (no_equal (HG.out.pre) (by have := HL.out; omega) HQ.out)
              have hcap := own_cap HS9d.out.own.row
              unfold maxLen at hcap
              obtain ⟨hc1, hc2⟩ := hcap
              have hgw : gL < w9.drew.heap.size := by
                obtain ⟨gL', e1, hL1', hL2'⟩ := (own_addr HS9d.out.own.row).resolve_left (by rintro ⟨h, _⟩; cases h)
                injection e1 with e1
                injection e1 with e1
                subst e1
                exact hL2'
              clear hel
              try simp only [Act.put, List.setIfInBounds_toArray, List.set_cons_zero, List.set_cons_succ]
              refine wp_region_held_drew (S := fun Y => Bxo Y w.heap.size 42 (poL p (some ⟨gL, 0, none⟩) c1) ∧ Bxo Y (w.heap.size + 1) 25 (pkL x Ao co Ab cb)) (by kernel_rfl) ?_ (fun hHeld => ?_)
              · exact ⟨HS9d.out.b2, HS9d.out.b3⟩
              refine wpAnyH_take (i := 0) (oi := ⟨some 84, _, _, _, _, _⟩) (v := ?_) rfl (by kernel_rfl) (by kernel_rfl) (by kernel_rfl) (fun _ _ _ h => h) (Or.inl ⟨by rfl, ?_⟩) (by assumption) ?_
              rotate_left
              · intro w hSw; (try dsimp only at hSw); go_simp; (try with_reducible rfl)
              try simp only [Act.put, List.setIfInBounds_toArray, List.set_cons_zero, List.set_cons_succ]
              refine wpAnyH_take (i := 1) (oi := ⟨some 85, _, _, _, _, _⟩) (v := ?_) rfl (by kernel_rfl) (by kernel_rfl) (by kernel_rfl) (fun _ _ _ h => h) (Or.inl ⟨by rfl, ?_⟩) (by assumption) ?_
              rotate_left
              · intro w hSw; have x3 := hSw.1.cell 3 rfl; (try dsimp only at hSw); go_simp; (try with_reducible rfl)
              try simp only [Act.put, List.setIfInBounds_toArray, List.set_cons_zero, List.set_cons_succ]
              refine wpAnyH_take (i := 2) (oi := ⟨some 86, _, _, _, _, _⟩) (v := ?_) rfl (by kernel_rfl) (by kernel_rfl) (by kernel_rfl) (fun _ _ _ h => h) (Or.inl ⟨by rfl, ?_⟩) (by assumption) ?_
              rotate_left
              · intro w hSw; (try dsimp only at hSw); go_simp; (try with_reducible rfl)
              try simp only [Act.put, List.setIfInBounds_toArray, List.set_cons_zero, List.set_cons_succ]
              refine wpAnyH_take (i := 3) (oi := ⟨some 87, _, _, _, _, _⟩) (v := ?_) rfl (by kernel_rfl) (by kernel_rfl) (by kernel_rfl) (fun _ _ _ h => h) (Or.inl ⟨by rfl, ?_⟩) (by assumption) ?_
              rotate_left
              · intro w hSw; (try dsimp only at hSw); go_simp; (try with_reducible rfl)
              try simp only [Act.put, List.setIfInBounds_toArray, List.set_cons_zero, List.set_cons_succ]
              refine wpAnyH_take (i := 4) (oi := ⟨some 88, _, _, _, _, _⟩) (v := ?_) rfl (by kernel_rfl) (by kernel_rfl) (by kernel_rfl) (fun _ _ _ h => h) (Or.inl ⟨by rfl, ?_⟩) (by assumption) ?_
              rotate_left
              · intro w hSw; have x3 := hSw.1.cell 3 rfl; (try dsimp only at hSw); go_simp; (try with_reducible rfl)
              try simp only [Act.put, List.setIfInBounds_toArray, List.set_cons_zero, List.set_cons_succ]
              refine wpAnyH_take (i := 5) (oi := ⟨some 89, _, _, _, _, _⟩) (v := ?_) rfl (by kernel_rfl) (by kernel_rfl) (by kernel_rfl) (fun _ _ _ h => h) (Or.inl ⟨by rfl, ?_⟩) (by assumption) ?_
              rotate_left
              · intro w hSw; (try dsimp only at hSw); go_simp; (try with_reducible rfl)
              try simp only [Act.put, List.setIfInBounds_toArray, List.set_cons_zero, List.set_cons_succ]
              refine wpAnyH_take (i := 6) (oi := ⟨some 90, _, _, _, _, _⟩) (v := ?_) rfl (by kernel_rfl) (by kernel_rfl) (by kernel_rfl) (fun _ _ _ h => h) (Or.inl ⟨by rfl, ?_⟩) (by assumption) ?_
              rotate_left
              · intro w hSw; (try dsimp only at hSw); go_simp; (try with_reducible rfl)
              try simp only [Act.put, List.setIfInBounds_toArray, List.set_cons_zero, List.set_cons_succ]
              refine wpAnyH_take (i := 8) (oi := ⟨some 92, _, _, _, _, _⟩) (v := ipV x Ao co Ab cb) rfl (by kernel_rfl) (by kernel_rfl) (by kernel_rfl) (fun _ _ _ h => h) (yieldsIf_pk (by rfl) _ rfl ⟨w.heap.size + 1, 0, none⟩ rfl x Ao co Ab cb (fun Y h => h.2.at)) (by assumption) ?_
              try simp only [Act.put, List.setIfInBounds_toArray, List.set_cons_zero, List.set_cons_succ]
              refine wpAnyH_ready (rs := [7]) (by kernel_rfl) (by simp) (AllReadyH.cons (o := ⟨some 91, _, _, _, _, _⟩) rfl (fun Kc hKc => ?_) AllReadyH.nil)
              rw [if_pos (by rfl)]
              refine step_load_at 67 _ rfl ⟨gL, k * 19, none⟩ rfl (bfL b Bo bo Bb bb Br br) _ (bfc HS9d.out.own HEK.out) Try.underlying67 rfl info_bf ?_
              refine hKc.out _ _ (hHeld) (fun hHeld => ?_)
              clear hKc Kc
              try simp only [Act.put, List.setIfInBounds_toArray, List.set_cons_zero, List.set_cons_succ]
              refine wpAnyH_ready (rs := [9]) (by kernel_rfl) (by simp) (AllReadyH.cons (o := ⟨some 93, _, _, _, _, _⟩) rfl (fun Kc hKc => ?_) AllReadyH.nil)
              go_simp
              go_at_call 37; refine (cputIn ⟨b, Bo, bo, Bb, bb, Br, br⟩ rs W.heap.size D x Ao co Ab cb _ V HEL.out HS9d.out.own.lt HDE.out HS9d.out.pk HS9d.out.b1 HG.out.runs HRN.out HMB.out.o0 HMB.out.o1 xo HXB.out HNE.out HVR.out).mono ?_; rintro e10 w10 ⟨e', rs', D', rfl, heq, hel', hgr, hd1, hd2, hde', har'⟩; have HEQ := Go.Lib.hid heq; have HEL' := Go.Lib.hid hel'; have HGR := Go.Lib.hid hgr; have HD1 := Go.Lib.hid hd1; have HD2 := Go.Lib.hid hd2; have HDE' := Go.Lib.hid hde'; have HAR' := Go.Lib.hid har'; clear heq hel' hgr hd1 hd2 hde' har'; dsimp only
              refine hKc.out _ _ (⟨(HGR.out.block _ (Nat.lt_of_lt_of_le (by have := HS9d.out.b0; omega) HS9d.out.b1) (fun e2 => HBR.out _ e2.symm (by have := HS9d.out.b0; omega))).trans HS9d.out.b2, (HGR.out.block _ (Nat.lt_of_lt_of_le (by have := HS9d.out.b0; omega) HS9d.out.b1) (fun e2 => HBR.out _ e2.symm (by have := HS9d.out.b0; omega))).trans HS9d.out.b3⟩) (fun hHeld => ?_)
              clear hKc Kc
              try simp only [Act.put, List.setIfInBounds_toArray, List.set_cons_zero, List.set_cons_succ]
              refine wpAnyH_take (i := 10) (oi := ⟨some 94, _, _, _, _, _⟩) (v := ?_) rfl (by kernel_rfl) (by kernel_rfl) (by kernel_rfl) (fun _ _ _ h => h) (Or.inl ⟨by rfl, ?_⟩) (by assumption) ?_
              rotate_left
              · intro w hSw; (try dsimp only at hSw); go_simp; (try with_reducible rfl)
              try simp only [Act.put, List.setIfInBounds_toArray, List.set_cons_zero, List.set_cons_succ]
              refine wpAnyH_ready (rs := [11]) (by kernel_rfl) (by simp) (AllReadyH.cons (o := ⟨none, _, _, _, _, _⟩) rfl (fun Kc hKc => ?_) AllReadyH.nil)
              rw [if_pos (by rfl)]
              obtain ⟨cur, hcb, hcl, hcr⟩ := OwnB.cur (own_keepA HS9d.out.own.row (fun g hg => HGR.out.block g (by injection hg with hg; have hg : gL = g := hg; omega) (fun e2 => HBG.out g e2.symm hg)) : OwnB w10 W.heap.size (some ⟨gL, 0, none⟩) c1 es) (by omega : k < es.length) e'; have HCR := Go.Lib.hid hcr; clear hcr; refine step_store_any 67 _ _ rfl gL (k * 19) 67 cur (bfL e'.b e'.Ao e'.co e'.Ab e'.cb e'.Ar e'.cr) _ rfl rfl rfl hcb info_bf hcl (fun u hu => el_one [e'] u (List.mem_flatMap.2 ⟨e', List.mem_singleton.2 rfl, hu⟩)) ?_; intro w11 hb11 ho11; have HR11 := Go.Lib.hid (HCR.out w11 hb11); clear hb11
              refine hKc.out _ _ (⟨hHeld.1.only ho11 (by omega), hHeld.2.only ho11 (by omega)⟩) (fun hHeld => ?_)
              clear hKc Kc
              try simp only [Act.put, List.setIfInBounds_toArray, List.set_cons_zero, List.set_cons_succ]
              refine wpAnyH_done (by kernel_rfl) ?_ _
              have HS11 : Hid (TkS w V W.heap.size x Ao co Ab cb w11 (withP p x) (some ⟨gL, 0, none⟩) c1 (es.set k e') D') := Go.Lib.hid (HS9d.out.put HEK.out HEL'.out HGR.out HD1.out HD2.out HDE'.out HAR'.out HR11.out ho11 (with_map HR.out HS9d.out.map HKF.out hkl (by rw [HEQ.out, HEB.out])) rfl rfl rfl)
              have HE11 : Hid ((es.set k e')[k]? = some e') := Go.Lib.hid (List.getElem?_set_self (by omega))
              have HT : Hid (tkO (withP p x) k e'.b = t) := Go.Lib.hid (by rw [← HTK.out, take_code HR.out HMB.out HL.out hnp.out HNA.out (by rw [← HEB.out]; exact HQ.out) (by rintro (⟨h1, _⟩ | h1); (rw [(find_some (p := p) (x := x) (by rw [HKF.out]; exact hkl)).1] at h1; cases h1); exact hf h1), HKF.out, HEQ.out, HEB.out])
              have HGJ : Hid (GoodB e'.b p.now) := Go.Lib.hid (by rw [HEQ.out]; show GoodB (joinB b x) p.now; rw [HEB.out]; exact join_good (own_pre HR.out x) HMB.out (by have := HL.out; omega) (by rw [← HEB.out]; exact HQ.out))
              go_wp2_with (first
                | (refine wpList_load_box rfl 42 _ rfl w.heap.size rfl (poL (withP p x) (some ⟨gL, 0, none⟩) c1) _ HS11.out.b2 Try.underlying42 rfl info_po ?_)
                | (go_at_call 38; refine (ctakeOutE (withP p x) gL c1 k (es.set k e') W.heap.size D' w11 e' HE11.out HS11.out.own HS11.out.map (by rw [List.length_set]; omega) HS11.out.b1 HGJ.out.runs HGJ.out.t1 HGJ.out.opts t HT.out).mono ?_; rintro e12 w12 ⟨A12, c12, Ao12, co12, Ab12, cb12, rfl, hout, y12⟩; have HOUT := Go.Lib.hid hout; have K4 := Go.Lib.hid (HS11.out.b4.keep y12 (by omega)); have K5 := Go.Lib.hid (HS11.out.b5.keep y12 (by omega)); clear hout; dsimp only)
                | (refine wpList_store_whole rfl 42 _ _ rfl (w.heap.size + 2) _ (poL t.pool A12 c12) rfl rfl K4.out info_po rfl (by simp [Value.oneCell']) ?_; intro wF hbF hoF; have HBF := Go.Lib.hid hbF; clear hbF)
                | (refine wpList_store_whole rfl 25 _ _ rfl (w.heap.size + 3) _ (pkL t.out Ao12 co12 Ab12 cb12) rfl rfl (K5.out.only hoF (by omega)) info_pk rfl (by simp [Value.oneCell']) ?_; intro wG hbG hoG; have HBG := Go.Lib.hid hbG; clear hbG))
              refine bodyPost_ret (v := .tuple #[poV t.pool A12 c12, ipV t.out Ao12 co12 Ab12 cb12, .bool t.ok, .int .i64 t.err]) (results_cctt (p := 4) (q := 5) (u := 6) (v := 7) rfl _ _ (w.heap.size + 2) (w.heap.size + 3) _ _ _ _ rfl rfl (HBF.out.only hoG (by omega)) HBG.out Try.underlying42 rfl info_po Try.underlying25 rfl info_pk) rfl ?_
              exact ⟨A12, c12, Ao12, co12, Ab12, cb12, rfl, HS11.out.out HOUT.out y12 hoF hoG⟩
            
          
          · have HT : Hid (t = ⟨eraP p k, Pk.empty, false, 7⟩) := Go.Lib.hid (by rw [← HTK.out, take_clash hnp.out HNA.out (by rw [← HEB.out]; exact HQ.out), ← HKF.out, era_there HR.out (by rw [HKF.out]; exact hkl)])
            have HEM : Hid ((es.eraseIdx k).map El.b = (eraP p k).list) := Go.Lib.hid (by show _ = p.list.eraseIdx k; rw [← HS8.out.map]; simp [List.eraseIdx_eq_take_drop_succ, List.map_take, List.map_drop])
            go_wp2_with (first
              | (refine wpList_load_box rfl 42 _ rfl w.heap.size rfl (poL p (some ⟨gL, 0, none⟩) c1) _ HS8.out.b2 Try.underlying42 rfl info_po ?_)
              | (go_at_call 34; refine (cwithout p gL c1 k es W.heap.size w8 HS8.out.own.row HS8.out.map (by omega) (by omega)).mono ?_; rintro e9 w9 ⟨rfl, hb9, hg9⟩; have HB9 := Go.Lib.hid hb9; have HG9 := Go.Lib.hid hg9; have K4 := Go.Lib.hid (HS8.out.b4.gro hg9 (by omega)); have K5 := Go.Lib.hid (HS8.out.b5.gro hg9 (by omega)); clear hb9 hg9; dsimp only)
              | (refine wpList_store_whole rfl 42 _ _ rfl (w.heap.size + 2) _ (poL (eraP p k) (some ⟨gL, 0, none⟩) c1) rfl rfl K4.out info_po rfl (by simp [Value.oneCell']) ?_; intro wF hbF hoF; have HBF := Go.Lib.hid hbF; clear hbF)
              | (refine wpList_store_whole rfl 25 _ _ rfl (w.heap.size + 3) _ (pkL pk0 none 0 none 0) rfl rfl (K5.out.only hoF (by omega)) info_pk rfl (by simp [Value.oneCell']) ?_; intro wG hbG hoG; have HBG := Go.Lib.hid hbG; clear hbG))
            obtain ⟨hpo, hbel, hlt⟩ := HS8.out.end2 HG9.out (HS8.out.own.erase HB9.out HG9.out) HEM.out hoF hoG
            refine bodyPost_ret (v := .tuple #[poV (eraP p k) (some ⟨gL, 0, none⟩) c1, ipV Pk.empty none 0 none 0, .bool false, .int .i64 7]) (results_cctt (p := 4) (q := 5) (u := 6) (v := 7) rfl _ _ (w.heap.size + 2) (w.heap.size + 3) _ _ _ _ rfl rfl (HBF.out.only hoG (by omega)) HBG.out Try.underlying42 rfl info_po Try.underlying25 rfl info_pk) rfl ?_
            rw [HT.out]
            exact ⟨some ⟨gL, 0, none⟩, c1, none, 0, none, 0, rfl, hpo, pk_none _ _ hlt, hbel⟩
        
        · have hq7 : ((k : Int) == (p.list.length : Int)) = true := by rw [beq_iff_eq]; omega
          go_upto_region 8 with fail
          have HS7d := Go.Lib.hid (HS7.out.step (below_drew (Below.refl _ _)))
          try simp only [Act.put, List.setIfInBounds_toArray, List.set_cons_zero, List.set_cons_succ]
          refine wp_region_held_drew (S := fun Y => TkS w V W.heap.size x Ao co Ab cb Y p A1 c1 es D) (by kernel_rfl) ?_ (fun hHeld => ?_)
          · exact HS7d.out
          refine wpAnyH_take (i := 0) (oi := ⟨some 44, _, _, _, _, _⟩) (v := ?_) rfl (by kernel_rfl) (by kernel_rfl) (by kernel_rfl) (fun _ _ _ h => h) (Or.inl ⟨by rfl, ?_⟩) (by assumption) ?_
          rotate_left
          · intro w hSw; (try dsimp only at hSw); go_simp; (try with_reducible rfl)
          try simp only [Act.put, List.setIfInBounds_toArray, List.set_cons_zero, List.set_cons_succ]
          refine wpAnyH_take (i := 1) (oi := ⟨some 45, _, _, _, _, _⟩) (v := ?_) rfl (by kernel_rfl) (by kernel_rfl) (by kernel_rfl) (fun _ _ _ h => h) (Or.inl ⟨by rfl, ?_⟩) (by assumption) ?_
          rotate_left
          · intro w hSw; (try dsimp only at hSw); go_simp; (try with_reducible rfl)
          try simp only [Act.put, List.setIfInBounds_toArray, List.set_cons_zero, List.set_cons_succ]
          refine wpAnyH_take (i := 2) (oi := ⟨some 46, _, _, _, _, _⟩) (v := ?_) rfl (by kernel_rfl) (by kernel_rfl) (by kernel_rfl) (fun _ _ _ h => h) (Or.inl ⟨by rfl, ?_⟩) (by assumption) ?_
          rotate_left
          · intro w hSw; (try dsimp only at hSw); go_simp; (try with_reducible rfl)
          try simp only [Act.put, List.setIfInBounds_toArray, List.set_cons_zero, List.set_cons_succ]
          refine wpAnyH_take (i := 3) (oi := ⟨some 47, _, _, _, _, _⟩) (v := undef) rfl (by kernel_rfl) (by kernel_rfl) (by kernel_rfl) (fun _ _ _ h => h) (Or.inr ⟨by rfl, rfl⟩) (by assumption) ?_
          try simp only [Act.put, List.setIfInBounds_toArray, List.set_cons_zero, List.set_cons_succ]
          refine wpAnyH_take (i := 4) (oi := ⟨some 48, _, _, _, _, _⟩) (v := undef) rfl (by kernel_rfl) (by kernel_rfl) (by kernel_rfl) (fun _ _ _ h => h) (Or.inr ⟨by rfl, rfl⟩) (by assumption) ?_
          try simp only [Act.put, List.setIfInBounds_toArray, List.set_cons_zero, List.set_cons_succ]
          refine wpAnyH_take (i := 5) (oi := ⟨some 49, _, _, _, _, _⟩) (v := undef) rfl (by kernel_rfl) (by kernel_rfl) (by kernel_rfl) (fun _ _ _ h => h) (Or.inr ⟨by rfl, rfl⟩) (by assumption) ?_
          try simp only [Act.put, List.setIfInBounds_toArray, List.set_cons_zero, List.set_cons_succ]
          refine wpAnyH_take (i := 6) (oi := ⟨some 50, _, _, _, _, _⟩) (v := undef) rfl (by kernel_rfl) (by kernel_rfl) (by kernel_rfl) (fun _ _ _ h => h) (Or.inr ⟨by rfl, rfl⟩) (by assumption) ?_
          try simp only [Act.put, List.setIfInBounds_toArray, List.set_cons_zero, List.set_cons_succ]
          refine wpAnyH_take (i := 7) (oi := ⟨some 51, _, _, _, _, _⟩) (v := undef) rfl (by kernel_rfl) (by kernel_rfl) (by kernel_rfl) (fun _ _ _ h => h) (Or.inr ⟨by rfl, rfl⟩) (by assumption) ?_
          try simp only [Act.put, List.setIfInBounds_toArray, List.set_cons_zero, List.set_cons_succ]
          refine wpAnyH_take (i := 8) (oi := ⟨some 52, _, _, _, _, _⟩) (v := undef) rfl (by kernel_rfl) (by kernel_rfl) (by kernel_rfl) (fun _ _ _ h => h) (Or.inr ⟨by rfl, rfl⟩) (by assumption) ?_
          try simp only [Act.put, List.setIfInBounds_toArray, List.set_cons_zero, List.set_cons_succ]
          refine wpAnyH_take (i := 9) (oi := ⟨some 53, _, _, _, _, _⟩) (v := undef) rfl (by kernel_rfl) (by kernel_rfl) (by kernel_rfl) (fun _ _ _ h => h) (Or.inr ⟨by rfl, rfl⟩) (by assumption) ?_
          try simp only [Act.put, List.setIfInBounds_toArray, List.set_cons_zero, List.set_cons_succ]
          refine wpAnyH_take (i := 10) (oi := ⟨some 54, _, _, _, _, _⟩) (v := ?_) rfl (by kernel_rfl) (by kernel_rfl) (by kernel_rfl) (fun _ _ _ h => h) (Or.inl ⟨by rfl, ?_⟩) (by assumption) ?_
          rotate_left
          · intro w hSw; (try dsimp only at hSw); go_simp; (try with_reducible rfl)
          try simp only [Act.put, List.setIfInBounds_toArray, List.set_cons_zero, List.set_cons_succ]
          refine wpAnyH_done (by kernel_rfl) ?_ _
          go_upto_region 10 with fail
          have HCN : Hid (clashB (ownP p x) x = false) := Go.Lib.hid (by rw [(find_no (p := p) (x := x) (by rw [HKF.out]; exact hkl)).2.1]; exact clash_new p x)
          have HS8d := Go.Lib.hid (HS7d.out.step (below_drew (Below.refl _ _)))
          by_cases h64 : p.list.length = 64
          · have hq10 : ((k : Int) == 64) = true := by rw [beq_iff_eq]; omega
            have HT : Hid (t = ⟨p, Pk.empty, false, 8⟩) := Go.Lib.hid (by rw [← HTK.out]; exact take_full hnp.out HNA.out HCN.out (.inl ⟨(find_no (p := p) (x := x) (by rw [HKF.out]; exact hkl)).1, by omega⟩))
            clear h64
            try simp only [Act.put, List.setIfInBounds_toArray, List.set_cons_zero, List.set_cons_succ]
            refine wp_region_held_drew (S := fun Y => TkS w V W.heap.size x Ao co Ab cb Y p A1 c1 es D) (by kernel_rfl) ?_ (fun hHeld => ?_)
            · exact HS8d.out
            refine wpAnyH_take (i := 0) (oi := ⟨some 59, _, _, _, _, _⟩) (v := ?_) rfl (by kernel_rfl) (by kernel_rfl) (by kernel_rfl) (fun _ _ _ h => h) (Or.inl ⟨by rfl, ?_⟩) (by assumption) ?_
            rotate_left
            · intro w hSw; (try dsimp only at hSw); go_simp; (try with_reducible rfl)
            try simp only [Act.put, List.setIfInBounds_toArray, List.set_cons_zero, List.set_cons_succ]
            refine wpAnyH_take (i := 1) (oi := ⟨some 60, _, _, _, _, _⟩) (v := ?_) rfl (by kernel_rfl) (by kernel_rfl) (by kernel_rfl) (fun _ _ _ h => h) (Or.inl ⟨by rfl, ?_⟩) (by assumption) ?_
            rotate_left
            · intro w hSw; (try dsimp only at hSw); go_simp; (try with_reducible rfl)
            try simp only [Act.put, List.setIfInBounds_toArray, List.set_cons_zero, List.set_cons_succ]
            refine wpAnyH_take (i := 2) (oi := ⟨some 61, _, _, _, _, _⟩) (v := ?_) rfl (by kernel_rfl) (by kernel_rfl) (by kernel_rfl) (fun _ _ _ h => h) (Or.inl ⟨by rfl, ?_⟩) (by assumption) ?_
            rotate_left
            · intro w hSw; (try dsimp only at hSw); go_simp; (try with_reducible rfl)
            try simp only [Act.put, List.setIfInBounds_toArray, List.set_cons_zero, List.set_cons_succ]
            refine wpAnyH_take (i := 3) (oi := ⟨some 62, _, _, _, _, _⟩) (v := undef) rfl (by kernel_rfl) (by kernel_rfl) (by kernel_rfl) (fun _ _ _ h => h) (Or.inr ⟨by rfl, rfl⟩) (by assumption) ?_
            try simp only [Act.put, List.setIfInBounds_toArray, List.set_cons_zero, List.set_cons_succ]
            refine wpAnyH_take (i := 4) (oi := ⟨some 63, _, _, _, _, _⟩) (v := undef) rfl (by kernel_rfl) (by kernel_rfl) (by kernel_rfl) (fun _ _ _ h => h) (Or.inr ⟨by rfl, rfl⟩) (by assumption) ?_
            try simp only [Act.put, List.setIfInBounds_toArray, List.set_cons_zero, List.set_cons_succ]
            refine wpAnyH_take (i := 5) (oi := ⟨some 64, _, _, _, _, _⟩) (v := undef) rfl (by kernel_rfl) (by kernel_rfl) (by kernel_rfl) (fun _ _ _ h => h) (Or.inr ⟨by rfl, rfl⟩) (by assumption) ?_
            try simp only [Act.put, List.setIfInBounds_toArray, List.set_cons_zero, List.set_cons_succ]
            refine wpAnyH_take (i := 6) (oi := ⟨some 65, _, _, _, _, _⟩) (v := undef) rfl (by kernel_rfl) (by kernel_rfl) (by kernel_rfl) (fun _ _ _ h => h) (Or.inr ⟨by rfl, rfl⟩) (by assumption) ?_
            try simp only [Act.put, List.setIfInBounds_toArray, List.set_cons_zero, List.set_cons_succ]
            refine wpAnyH_take (i := 7) (oi := ⟨some 66, _, _, _, _, _⟩) (v := undef) rfl (by kernel_rfl) (by kernel_rfl) (by kernel_rfl) (fun _ _ _ h => h) (Or.inr ⟨by rfl, rfl⟩) (by assumption) ?_
            try simp only [Act.put, List.setIfInBounds_toArray, List.set_cons_zero, List.set_cons_succ]
            refine wpAnyH_take (i := 8) (oi := ⟨some 67, _, _, _, _, _⟩) (v := undef) rfl (by kernel_rfl) (by kernel_rfl) (by kernel_rfl) (fun _ _ _ h => h) (Or.inr ⟨by rfl, rfl⟩) (by assumption) ?_
            try simp only [Act.put, List.setIfInBounds_toArray, List.set_cons_zero, List.set_cons_succ]
            refine wpAnyH_take (i := 9) (oi := ⟨some 68, _, _, _, _, _⟩) (v := undef) rfl (by kernel_rfl) (by kernel_rfl) (by kernel_rfl) (fun _ _ _ h => h) (Or.inr ⟨by rfl, rfl⟩) (by assumption) ?_
            try simp only [Act.put, List.setIfInBounds_toArray, List.set_cons_zero, List.set_cons_succ]
            refine wpAnyH_take (i := 10) (oi := ⟨some 69, _, _, _, _, _⟩) (v := undef) rfl (by kernel_rfl) (by kernel_rfl) (by kernel_rfl) (fun _ _ _ h => h) (Or.inr ⟨by rfl, rfl⟩) (by assumption) ?_
            try simp only [Act.put, List.setIfInBounds_toArray, List.set_cons_zero, List.set_cons_succ]
            refine wpAnyH_take (i := 11) (oi := ⟨some 70, _, _, _, _, _⟩) (v := undef) rfl (by kernel_rfl) (by kernel_rfl) (by kernel_rfl) (fun _ _ _ h => h) (Or.inr ⟨by rfl, rfl⟩) (by assumption) ?_
            try simp only [Act.put, List.setIfInBounds_toArray, List.set_cons_zero, List.set_cons_succ]
            refine wpAnyH_take (i := 12) (oi := ⟨some 71, _, _, _, _, _⟩) (v := ?_) rfl (by kernel_rfl) (by kernel_rfl) (by kernel_rfl) (fun _ _ _ h => h) (Or.inl ⟨by rfl, ?_⟩) (by assumption) ?_
            rotate_left
            · intro w hSw; (try dsimp only at hSw); go_simp; (try with_reducible rfl)
            try simp only [Act.put, List.setIfInBounds_toArray, List.set_cons_zero, List.set_cons_succ]
            refine wpAnyH_done (by kernel_rfl) ?_ _
            go_wp2_with (first
              | (refine wpList_load_box rfl 42 _ rfl w.heap.size rfl (poL p A1 c1) _ HS8d.out.b2 Try.underlying42 rfl info_po ?_)
              | (refine wpList_store_whole rfl 42 _ _ rfl (w.heap.size + 2) _ (poL p A1 c1) rfl rfl HS8d.out.b4 info_po rfl (by simp [Value.oneCell']) ?_; intro wF hbF hoF; have HBF := Go.Lib.hid hbF; clear hbF)
              | (refine wpList_store_whole rfl 25 _ _ rfl (w.heap.size + 3) _ (pkL pk0 none 0 none 0) rfl rfl (HS8d.out.b5.only hoF (by omega)) info_pk rfl (by simp [Value.oneCell']) ?_; intro wG hbG hoG; have HBG := Go.Lib.hid hbG; clear hbG))
            obtain ⟨hpo, hbel, hlt⟩ := HS8d.out.end hoF hoG
            refine bodyPost_ret (v := .tuple #[poV p A1 c1, ipV Pk.empty none 0 none 0, .bool false, .int .i64 8]) (results_cctt (p := 4) (q := 5) (u := 6) (v := 7) rfl _ _ (w.heap.size + 2) (w.heap.size + 3) _ _ _ _ rfl rfl (HBF.out.only hoG (by omega)) HBG.out Try.underlying42 rfl info_po Try.underlying25 rfl info_pk) rfl ?_
            rw [HT.out]
            exact ⟨A1, c1, none, 0, none, 0, rfl, hpo, pk_none _ _ hlt, hbel⟩
          
          · have hq10 : ((k : Int) == 64) = false := by rw [beq_eq_false_iff_ne]; omega
            clear h64
            have hh0 : (heldP p : Int) ≤ 1048576 := Int.le_trans HR.out.fits HR.out.r1
            have hh1 : (x.body.length : Int) ≤ 65535 := by have := HMB.out.fit; have := HMB.out.o0; omega
            have hwr : IntKind.i64.wrap ((heldP p : Int) + (x.body.length : Int)) = (heldP p : Int) + (x.body.length : Int) := IntWalk.i64_in _ (by omega)
            try simp only [Act.put, List.setIfInBounds_toArray, List.set_cons_zero, List.set_cons_succ]
            refine wp_region_held_drew (S := fun Y => TkS w V W.heap.size x Ao co Ab cb Y p A1 c1 es D) (by kernel_rfl) ?_ (fun hHeld => ?_)
            · exact HS8d.out
            refine wpAnyH_take (i := 0) (oi := ⟨some 59, _, _, _, _, _⟩) (v := ?_) rfl (by kernel_rfl) (by kernel_rfl) (by kernel_rfl) (fun _ _ _ h => h) (Or.inl ⟨by rfl, ?_⟩) (by assumption) ?_
            rotate_left
            · intro w hSw; (try dsimp only at hSw); go_simp; (try with_reducible rfl)
            try simp only [Act.put, List.setIfInBounds_toArray, List.set_cons_zero, List.set_cons_succ]
            refine wpAnyH_take (i := 1) (oi := ⟨some 60, _, _, _, _, _⟩) (v := ?_) rfl (by kernel_rfl) (by kernel_rfl) (by kernel_rfl) (fun _ _ _ h => h) (Or.inl ⟨by rfl, ?_⟩) (by assumption) ?_
            rotate_left
            · intro w hSw; (try dsimp only at hSw); go_simp; (try with_reducible rfl)
            try simp only [Act.put, List.setIfInBounds_toArray, List.set_cons_zero, List.set_cons_succ]
            refine wpAnyH_take (i := 2) (oi := ⟨some 61, _, _, _, _, _⟩) (v := ?_) rfl (by kernel_rfl) (by kernel_rfl) (by kernel_rfl) (fun _ _ _ h => h) (Or.inl ⟨by rfl, ?_⟩) (by assumption) ?_
            rotate_left
            · intro w hSw; (try dsimp only at hSw); go_simp; (try with_reducible rfl)
            try simp only [Act.put, List.setIfInBounds_toArray, List.set_cons_zero, List.set_cons_succ]
            refine wpAnyH_take (i := 3) (oi := ⟨some 62, _, _, _, _, _⟩) (v := .agg (poL p A1 c1).toArray) rfl (by kernel_rfl) (by kernel_rfl) (by kernel_rfl) (fun _ _ _ h => h) (yieldsIf_load_at (by rfl) 42 _ rfl ⟨w.heap.size, 0, none⟩ rfl (poL p A1 c1) _ (fun Y h => h.b2.at) Try.underlying42 rfl info_po) (by assumption) ?_
            try simp only [Act.put, List.setIfInBounds_toArray, List.set_cons_zero, List.set_cons_succ]
            refine wpAnyH_take (i := 5) (oi := ⟨some 64, _, _, _, _, _⟩) (v := ?_) rfl (by kernel_rfl) (by kernel_rfl) (by kernel_rfl) (fun _ _ _ h => h) (Or.inl ⟨by rfl, ?_⟩) (by assumption) ?_
            rotate_left
            · intro w hSw; (try dsimp only at hSw); go_simp; (try with_reducible rfl)
            try simp only [Act.put, List.setIfInBounds_toArray, List.set_cons_zero, List.set_cons_succ]
            refine wpAnyH_take (i := 6) (oi := ⟨some 65, _, _, _, _, _⟩) (v := ?_) rfl (by kernel_rfl) (by kernel_rfl) (by kernel_rfl) (fun _ _ _ h => h) (Or.inl ⟨by rfl, ?_⟩) (by assumption) ?_
            rotate_left
            · intro w hSw; have x10 := hSw.b3.cell 10 rfl; (try dsimp only at hSw); go_simp; (try with_reducible rfl)
            try simp only [Act.put, List.setIfInBounds_toArray, List.set_cons_zero, List.set_cons_succ]
            refine wpAnyH_take (i := 7) (oi := ⟨some 66, _, _, _, _, _⟩) (v := ?_) rfl (by kernel_rfl) (by kernel_rfl) (by kernel_rfl) (fun _ _ _ h => h) (Or.inl ⟨by rfl, ?_⟩) (by assumption) ?_
            rotate_left
            · intro w hSw; (try dsimp only at hSw); go_simp; (try with_reducible rfl)
            try simp only [Act.put, List.setIfInBounds_toArray, List.set_cons_zero, List.set_cons_succ]
            refine wpAnyH_take (i := 9) (oi := ⟨some 68, _, _, _, _, _⟩) (v := ?_) rfl (by kernel_rfl) (by kernel_rfl) (by kernel_rfl) (fun _ _ _ h => h) (Or.inl ⟨by rfl, ?_⟩) (by assumption) ?_
            rotate_left
            · intro w hSw; (try dsimp only at hSw); go_simp; (try with_reducible rfl)
            try simp only [Act.put, List.setIfInBounds_toArray, List.set_cons_zero, List.set_cons_succ]
            refine wpAnyH_take (i := 10) (oi := ⟨some 69, _, _, _, _, _⟩) (v := ?_) rfl (by kernel_rfl) (by kernel_rfl) (by kernel_rfl) (fun _ _ _ h => h) (Or.inl ⟨by rfl, ?_⟩) (by assumption) ?_
            rotate_left
            · intro w hSw; have x0 := hSw.b2.cell 0 rfl; (try dsimp only at hSw); go_simp; (try with_reducible rfl)
            try simp only [Act.put, List.setIfInBounds_toArray, List.set_cons_zero, List.set_cons_succ]
            refine wpAnyH_ready (rs := [4]) (by kernel_rfl) (by simp) (AllReadyH.cons (o := ⟨some 63, _, _, _, _, _⟩) rfl (fun Kc hKc => ?_) AllReadyH.nil)
            go_simp
            go_at_call 35; refine (cheld p A1 c1 _ _ HS8d.out.po (right_few HR.out)).mono ?_; rintro e9 w9 ⟨rfl, y9⟩; have HS9 := Go.Lib.hid (HS8d.out.step y9); dsimp only
            refine hKc.out _ _ (HS9.out) (fun hHeld => ?_)
            clear hKc Kc
            try simp only [Act.put, List.setIfInBounds_toArray, List.set_cons_zero, List.set_cons_succ]
            refine wpAnyH_take (i := 8) (oi := ⟨some 67, _, _, _, _, _⟩) (v := ?_) rfl (by kernel_rfl) (by kernel_rfl) (by kernel_rfl) (fun _ _ _ h => h) (Or.inl ⟨by rfl, ?_⟩) (by assumption) ?_
            rotate_left
            · intro w hSw; (try dsimp only at hSw); go_simp; (try with_reducible rfl)
            try simp only [Act.put, List.setIfInBounds_toArray, List.set_cons_zero, List.set_cons_succ]
            refine wpAnyH_take (i := 11) (oi := ⟨some 70, _, _, _, _, _⟩) (v := ?_) rfl (by kernel_rfl) (by kernel_rfl) (by kernel_rfl) (fun _ _ _ h => h) (Or.inl ⟨by rfl, ?_⟩) (by assumption) ?_
            rotate_left
            · intro w hSw; (try dsimp only at hSw); go_simp; (try with_reducible rfl)
            try simp only [Act.put, List.setIfInBounds_toArray, List.set_cons_zero, List.set_cons_succ]
            refine wpAnyH_take (i := 12) (oi := ⟨some 71, _, _, _, _, _⟩) (v := ?_) rfl (by kernel_rfl) (by kernel_rfl) (by kernel_rfl) (fun _ _ _ h => h) (Or.inl ⟨by rfl, ?_⟩) (by assumption) ?_
            rotate_left
            · intro w hSw; (try dsimp only at hSw); go_simp; (try with_reducible rfl)
            try simp only [Act.put, List.setIfInBounds_toArray, List.set_cons_zero, List.set_cons_succ]
            refine wpAnyH_done (by kernel_rfl) ?_ _
            by_cases hf : p.room < (heldP p : Int) + (x.body.length : Int)
            · have HT : Hid (t = ⟨p, Pk.empty, false, 8⟩) := Go.Lib.hid (by rw [← HTK.out]; exact take_full hnp.out HNA.out HCN.out (.inr hf))
              have hf' : decide (p.room < (heldP p : Int) + (x.body.length : Int)) = true := decide_eq_true hf
              go_wp2_with (first
                | (refine wpList_load_box rfl 42 _ rfl w.heap.size rfl (poL p A1 c1) _ HS9.out.b2 Try.underlying42 rfl info_po ?_)
                | (refine wpList_store_whole rfl 42 _ _ rfl (w.heap.size + 2) _ (poL p A1 c1) rfl rfl HS9.out.b4 info_po rfl (by simp [Value.oneCell']) ?_; intro wF hbF hoF; have HBF := Go.Lib.hid hbF; clear hbF)
                | (refine wpList_store_whole rfl 25 _ _ rfl (w.heap.size + 3) _ (pkL pk0 none 0 none 0) rfl rfl (HS9.out.b5.only hoF (by omega)) info_pk rfl (by simp [Value.oneCell']) ?_; intro wG hbG hoG; have HBG := Go.Lib.hid hbG; clear hbG))
              obtain ⟨hpo, hbel, hlt⟩ := HS9.out.end hoF hoG
              refine bodyPost_ret (v := .tuple #[poV p A1 c1, ipV Pk.empty none 0 none 0, .bool false, .int .i64 8]) (results_cctt (p := 4) (q := 5) (u := 6) (v := 7) rfl _ _ (w.heap.size + 2) (w.heap.size + 3) _ _ _ _ rfl rfl (HBF.out.only hoG (by omega)) HBG.out Try.underlying42 rfl info_po Try.underlying25 rfl info_pk) rfl ?_
              rw [HT.out]
              exact ⟨A1, c1, none, 0, none, 0, rfl, hpo, pk_none _ _ hlt, hbel⟩
            · have hf' : decide (p.room < (heldP p : Int) + (x.body.length : Int)) = false := decide_eq_false hf
              go_upto_region 13 with fail
              have HS9d := Go.Lib.hid (HS9.out.step (below_drew (Below.refl _ _)))
              have hes : es.length = p.list.length := by rw [← HS9d.out.map, List.length_map]
              obtain ⟨i0, hi, hz0, hz1, hz2⟩ := info_parts info_buf
              have HES := Go.Lib.hid hes
              have HAB : Hid (∀ g, blk A1 = some g → ¬ g < W.heap.size) := Go.Lib.hid (fun g hg => by
                rcases own_addr HS9d.out.own.row with ⟨hn', _⟩ | ⟨g2, hg2, h1, h2⟩
                · rw [hn'] at hg; cases hg
                · rw [hg2] at hg; injection hg with hg; have hg : g2 = g := hg; omega)
              clear d3 hes
              have d3 := HS9d.out.b2.cell 3 rfl
              try simp only [Act.put, List.setIfInBounds_toArray, List.set_cons_zero, List.set_cons_succ]
              refine wp_region_held_drew (S := fun Y => Y.cell? ⟨w.heap.size, 2, none⟩ = some (.int .i64 p.now) ∧ Bxo Y (w.heap.size + 1) 25 (pkL x Ao co Ab cb)) (by kernel_rfl) ?_ (fun hHeld => ?_)
              · exact ⟨HS9d.out.b2.cell 2 rfl, HS9d.out.b3⟩
              refine wpAnyH_take (i := 0) (oi := ⟨some 75, _, _, _, _, _⟩) (v := ?_) rfl (by kernel_rfl) (by kernel_rfl) (by kernel_rfl) (fun _ _ _ h => h) (Or.inl ⟨by rfl, ?_⟩) (by assumption) ?_
              rotate_left
              · intro w hSw; (try dsimp only at hSw); go_simp; (try with_reducible rfl)
              try simp only [Act.put, List.setIfInBounds_toArray, List.set_cons_zero, List.set_cons_succ]
              refine wpAnyH_take (i := 2) (oi := ⟨some 77, _, _, _, _, _⟩) (v := ipV x Ao co Ab cb) rfl (by kernel_rfl) (by kernel_rfl) (by kernel_rfl) (fun _ _ _ h => h) (yieldsIf_pk (by rfl) _ rfl ⟨w.heap.size + 1, 0, none⟩ rfl x Ao co Ab cb (fun Y h => h.2.at)) (by assumption) ?_
              try simp only [Act.put, List.setIfInBounds_toArray, List.set_cons_zero, List.set_cons_succ]
              refine wpAnyH_take (i := 3) (oi := ⟨some 78, _, _, _, _, _⟩) (v := ?_) rfl (by kernel_rfl) (by kernel_rfl) (by kernel_rfl) (fun _ _ _ h => h) (Or.inl ⟨by rfl, ?_⟩) (by assumption) ?_
              rotate_left
              · intro w hSw; (try dsimp only at hSw); go_simp; (try with_reducible rfl)
              try simp only [Act.put, List.setIfInBounds_toArray, List.set_cons_zero, List.set_cons_succ]
              refine wpAnyH_take (i := 4) (oi := ⟨some 79, _, _, _, _, _⟩) (v := ?_) rfl (by kernel_rfl) (by kernel_rfl) (by kernel_rfl) (fun _ _ _ h => h) (Or.inl ⟨by rfl, ?_⟩) (by assumption) ?_
              rotate_left
              · intro w hSw; have x2 := hSw.1; (try dsimp only at hSw); go_simp; (try with_reducible rfl)
              try simp only [Act.put, List.setIfInBounds_toArray, List.set_cons_zero, List.set_cons_succ]
              refine wpAnyH_ready (rs := [1, 5]) (by kernel_rfl) (by simp) (AllReadyH.cons (o := ⟨some 76, _, _, _, _, _⟩) rfl (fun Kc hKc => ?_) (AllReadyH.cons (o := ⟨some 80, _, _, _, _, _⟩) rfl (fun Kc hKc => ?_) AllReadyH.nil))
              ·
                go_simp
                refine hKc.out _ _ (hHeld) (fun hHeld => ?_)
                clear hKc Kc
                try simp only [Act.put, List.setIfInBounds_toArray, List.set_cons_zero, List.set_cons_succ]
                refine wpAnyH_ready (rs := [5]) (by kernel_rfl) (by simp) (AllReadyH.cons (o := ⟨some 80, _, _, _, _, _⟩) rfl (fun Kc hKc => ?_) AllReadyH.nil)
                go_simp
                go_at_call 36; refine (cbegin x Ao co Ab cb p.now _).mono ?_; rintro e10 w10 ⟨rfl, y10⟩; have HS10 := Go.Lib.hid (HS9d.out.step y10); clear d3; have d3 := HS10.out.b2.cell 3 rfl; dsimp only
                refine hKc.out _ _ (⟨HS10.out.b2.cell 2 rfl, HS10.out.b3⟩) (fun hHeld => ?_)
                clear hKc Kc
                try simp only [Act.put, List.setIfInBounds_toArray, List.set_cons_zero, List.set_cons_succ]
                refine wpAnyH_ready (rs := [6]) (by kernel_rfl) (by simp) (AllReadyH.cons (o := ⟨some 81, _, _, _, _, _⟩) rfl (fun Kc hKc => ?_) AllReadyH.nil)
                go_simp
                have V11 := Go.Lib.hid (Bxo.made w10 67 (bfL (bgB x p.now) none 0 none 0 none 0)); have y11 : Below w10.heap.size w10 (w10.alloc (oBf (bgB x p.now) none 0 none 0 none 0)) := (Below.refl _ _).alloc (Nat.le_refl _) _; have HS11 := Go.Lib.hid (HS10.out.step y11); clear d3; have d3 := HS11.out.b2.cell 3 rfl; generalize w10.alloc (oBf (bgB x p.now) none 0 none 0 none 0) = w11 at *
                refine hKc.out _ _ (⟨HS11.out.b2.cell 2 rfl, HS11.out.b3⟩) (fun hHeld => ?_)
                clear hKc Kc
                try simp only [Act.put, List.setIfInBounds_toArray, List.set_cons_zero, List.set_cons_succ]
                refine wpAnyH_ready (rs := [7]) (by kernel_rfl) (by simp) (AllReadyH.cons (o := ⟨some 82, _, _, _, _, _⟩) rfl (fun Kc hKc => ?_) AllReadyH.nil)
                rw [if_pos (by rfl)]
                refine step_append_own _ _ 40 rfl W.heap.size 67 i0 _ 19 _ Try.underlying40 hi hz0 hz1 hz2 rfl (by omega) (.slice A1 p.list.length c1) es.length (es.flatMap El.L) rfl (by rw [← HES.out]; exact HS11.out.own.row) ⟨w10.heap.size, 0, none⟩ 1 1 (begE p x).L rfl rfl V11.out.at (fun u hu => el_one [begE p x] u (List.mem_flatMap.2 ⟨begE p x, List.mem_singleton.2 rfl, hu⟩)) (by have := HES.out; unfold maxLen; omega) (by have := HES.out; omega) HS11.out.b1 ?_; intro v12 w12 ho12 hg12 hat12; obtain ⟨A', c', rfl⟩ := own_slice ho12; rw [ownBlock_blk] at hg12 hat12; have HO12 := Go.Lib.hid ho12; have HG12 := Go.Lib.hid hg12; have HAT12 : Hid (blk A' = blk A1 ∨ blk A' = some w11.heap.size) := Go.Lib.hid (by rw [ownBlock_blk] at hat12; exact hat12); clear ho12 hg12 hat12; have K2 := Go.Lib.hid (show Bxo w12 w.heap.size 42 (poL p A1 c1) from (HG12.out.block _ HS11.out.b2.lt (fun e2 => HAB.out _ e2.symm (by omega))).trans HS11.out.b2); have K3 := Go.Lib.hid (show Bxo w12 (w.heap.size + 1) 25 (pkL x Ao co Ab cb) from (HG12.out.block _ HS11.out.b3.lt (fun e2 => HAB.out _ e2.symm (by omega))).trans HS11.out.b3)
                refine hKc.out _ _ (⟨K2.out.cell 2 rfl, K3.out⟩) (fun hHeld => ?_)
                clear hKc Kc
                try simp only [Act.put, List.setIfInBounds_toArray, List.set_cons_zero, List.set_cons_succ]
                refine wpAnyH_take (i := 8) (oi := ⟨some 83, _, _, _, _, _⟩) (v := ?_) rfl (by kernel_rfl) (by kernel_rfl) (by kernel_rfl) (fun _ _ _ h => h) (Or.inl ⟨by rfl, ?_⟩) (by assumption) ?_
                rotate_left
                · intro w hSw; (try dsimp only at hSw); go_simp; (try with_reducible rfl)
                try simp only [Act.put, List.setIfInBounds_toArray, List.set_cons_zero, List.set_cons_succ]
                refine wpAnyH_ready (rs := [9]) (by kernel_rfl) (by simp) (AllReadyH.cons (o := ⟨none, _, _, _, _, _⟩) rfl (fun Kc hKc => ?_) AllReadyH.nil)
                rw [if_pos (by rfl)]
                refine step_store_any 40 _ _ rfl w.heap.size 3 42 _ [.slice A' (es.length + 1) c'] _ rfl rfl rfl K2.out info_sb (by show 3 + 1 ≤ 4; omega) (by simp [Value.oneCell']) ?_; intro w13 hb13 ho13; have HB13 := Go.Lib.hid hb13; clear hb13
                refine hKc.out _ _ (⟨HB13.out.cell 2 rfl, K3.out.only ho13 (by omega)⟩) (fun hHeld => ?_)
                clear hKc Kc
                try simp only [Act.put, List.setIfInBounds_toArray, List.set_cons_zero, List.set_cons_succ]
                refine wpAnyH_done (by kernel_rfl) ?_ _
                have HS13 : Hid (TkS w V W.heap.size x Ao co Ab cb w13 (begP p x) A' c' (es ++ [begE p x]) D) := Go.Lib.hid (HS11.out.push HO12.out HG12.out HAT12.out ho13 (by
                  have h := HB13.out
                  show Bxo w13 _ _ [.int .i64 p.room, .int .i64 p.life, .int .i64 p.now, .slice A' (p.list ++ [newB p x]).length c']
                  rw [List.length_append, ← HES.out]
                  exact h))
                clear d3
                have d3 := HS13.out.b2.cell 3 rfl
                go_upto_region 14 with fail
                have HS13d := Go.Lib.hid (HS13.out.step (below_drew (Below.refl _ _)))
                obtain ⟨gL, hA1, hL1, hL2⟩ := (own_addr HS13.out.own.row).resolve_left (by rintro ⟨_, h, _⟩; simp at h)
                subst hA1
                have hln : (es ++ [begE p x]).length = p.list.length + 1 := by rw [List.length_append, HES.out]; rfl
                have HKN : Hid (k < (es ++ [begE p x]).length ∧ (es ++ [begE p x]).length ≤ 16777216) := Go.Lib.hid ⟨by rw [hln]; omega, by rw [hln]; omega⟩
                have i1 : (0 : Int) ≤ (k : Int) := by omega
                have i2 : (k : Int) < ((p.list ++ [newB p x]).length : Int) := by rw [List.length_append]; simp; omega
                have i3 : (k : Int) < (p.list.length : Int) + 1 := by omega
                have i4 : (k : Int) < ((p.list.length + 1 : Nat) : Int) := by omega
                have HEK : Hid ((es ++ [begE p x])[k]? = some (begE p x)) := Go.Lib.hid (by
                  have hk' : k = es.length := by have := HES.out; omega
                  rw [hk']; exact List.getElem?_concat_length)
                obtain ⟨rs, hel⟩ := HS13d.out.own.els _ (List.mem_of_getElem? HEK.out)
                have HEL := Go.Lib.hid hel
                have HBR : Hid (∀ g, blk (none : Option Addr) = some g → ¬ g < W.heap.size) := Go.Lib.hid (fun g hg => by cases hg)
                have HDE : Hid (∀ g, blk (none : Option Addr) = some g → ¬ D g) := Go.Lib.hid (fun g hg => by cases hg)
                have HBG : Hid (∀ g, blk (none : Option Addr) = some g → ¬ blk (some (⟨gL, 0, none⟩ : Addr)) = some g) := Go.Lib.hid (fun g hg => by cases hg)
                have HVR : Hid (∀ g, blk (none : Option Addr) = some g → ¬ V g) := Go.Lib.hid (fun g hg => by cases hg)
                have HRN : Hid ((newB p x).runs.length ≤ 1048576) := Go.Lib.hid (Nat.zero_le _)
                have HXB : Hid (x.body.length ≤ 65535) := Go.Lib.hid (by omega)
                have HNE : Hid (∀ r ∈ (newB p x).runs, r.off ≠ x.off) := Go.Lib.hid (fun r hr => by cases hr)
                have hgw : gL < w13.drew.heap.size := hL2
                clear hel hln
                try simp only [Act.put, List.setIfInBounds_toArray, List.set_cons_zero, List.set_cons_succ]
                refine wp_region_held_drew (S := fun Y => Bxo Y w.heap.size 42 (poL (begP p x) (some ⟨gL, 0, none⟩) c') ∧ Bxo Y (w.heap.size + 1) 25 (pkL x Ao co Ab cb)) (by kernel_rfl) ?_ (fun hHeld => ?_)
                · exact ⟨HS13d.out.b2, HS13d.out.b3⟩
                refine wpAnyH_take (i := 0) (oi := ⟨some 84, _, _, _, _, _⟩) (v := ?_) rfl (by kernel_rfl) (by kernel_rfl) (by kernel_rfl) (fun _ _ _ h => h) (Or.inl ⟨by rfl, ?_⟩) (by assumption) ?_
                rotate_left
                · intro w hSw; (try dsimp only at hSw); go_simp; (try with_reducible rfl)
                try simp only [Act.put, List.setIfInBounds_toArray, List.set_cons_zero, List.set_cons_succ]
                refine wpAnyH_take (i := 1) (oi := ⟨some 85, _, _, _, _, _⟩) (v := ?_) rfl (by kernel_rfl) (by kernel_rfl) (by kernel_rfl) (fun _ _ _ h => h) (Or.inl ⟨by rfl, ?_⟩) (by assumption) ?_
                rotate_left
                · intro w hSw; have x3 := hSw.1.cell 3 rfl; (try dsimp only at hSw); go_simp; (try with_reducible rfl)
                try simp only [Act.put, List.setIfInBounds_toArray, List.set_cons_zero, List.set_cons_succ]
                refine wpAnyH_take (i := 2) (oi := ⟨some 86, _, _, _, _, _⟩) (v := ?_) rfl (by kernel_rfl) (by kernel_rfl) (by kernel_rfl) (fun _ _ _ h => h) (Or.inl ⟨by rfl, ?_⟩) (by assumption) ?_
                rotate_left
                · intro w hSw; (try dsimp only at hSw); go_simp; (try with_reducible rfl)
                try simp only [Act.put, List.setIfInBounds_toArray, List.set_cons_zero, List.set_cons_succ]
                refine wpAnyH_take (i := 3) (oi := ⟨some 87, _, _, _, _, _⟩) (v := ?_) rfl (by kernel_rfl) (by kernel_rfl) (by kernel_rfl) (fun _ _ _ h => h) (Or.inl ⟨by rfl, ?_⟩) (by assumption) ?_
                rotate_left
                · intro w hSw; (try dsimp only at hSw); go_simp; (try with_reducible rfl)
                try simp only [Act.put, List.setIfInBounds_toArray, List.set_cons_zero, List.set_cons_succ]
                refine wpAnyH_take (i := 4) (oi := ⟨some 88, _, _, _, _, _⟩) (v := ?_) rfl (by kernel_rfl) (by kernel_rfl) (by kernel_rfl) (fun _ _ _ h => h) (Or.inl ⟨by rfl, ?_⟩) (by assumption) ?_
                rotate_left
                · intro w hSw; have x3 := hSw.1.cell 3 rfl; (try dsimp only at hSw); go_simp; (try with_reducible rfl)
                try simp only [Act.put, List.setIfInBounds_toArray, List.set_cons_zero, List.set_cons_succ]
                refine wpAnyH_take (i := 5) (oi := ⟨some 89, _, _, _, _, _⟩) (v := ?_) rfl (by kernel_rfl) (by kernel_rfl) (by kernel_rfl) (fun _ _ _ h => h) (Or.inl ⟨by rfl, ?_⟩) (by assumption) ?_
                rotate_left
                · intro w hSw; (try dsimp only at hSw); go_simp; (try with_reducible rfl)
                try simp only [Act.put, List.setIfInBounds_toArray, List.set_cons_zero, List.set_cons_succ]
                refine wpAnyH_take (i := 6) (oi := ⟨some 90, _, _, _, _, _⟩) (v := ?_) rfl (by kernel_rfl) (by kernel_rfl) (by kernel_rfl) (fun _ _ _ h => h) (Or.inl ⟨by rfl, ?_⟩) (by assumption) ?_
                rotate_left
                · intro w hSw; (try dsimp only at hSw); go_simp; (try with_reducible rfl)
                try simp only [Act.put, List.setIfInBounds_toArray, List.set_cons_zero, List.set_cons_succ]
                refine wpAnyH_take (i := 8) (oi := ⟨some 92, _, _, _, _, _⟩) (v := ipV x Ao co Ab cb) rfl (by kernel_rfl) (by kernel_rfl) (by kernel_rfl) (fun _ _ _ h => h) (yieldsIf_pk (by rfl) _ rfl ⟨w.heap.size + 1, 0, none⟩ rfl x Ao co Ab cb (fun Y h => h.2.at)) (by assumption) ?_
                try simp only [Act.put, List.setIfInBounds_toArray, List.set_cons_zero, List.set_cons_succ]
                refine wpAnyH_ready (rs := [7]) (by kernel_rfl) (by simp) (AllReadyH.cons (o := ⟨some 91, _, _, _, _, _⟩) rfl (fun Kc hKc => ?_) AllReadyH.nil)
                rw [if_pos (by rfl)]
                refine step_load_at 67 _ rfl ⟨gL, k * 19, none⟩ rfl (bfL (newB p x) none 0 none 0 none 0) _ (bfc HS13d.out.own HEK.out) Try.underlying67 rfl info_bf ?_
                refine hKc.out _ _ (hHeld) (fun hHeld => ?_)
                clear hKc Kc
                try simp only [Act.put, List.setIfInBounds_toArray, List.set_cons_zero, List.set_cons_succ]
                refine wpAnyH_ready (rs := [9]) (by kernel_rfl) (by simp) (AllReadyH.cons (o := ⟨some 93, _, _, _, _, _⟩) rfl (fun Kc hKc => ?_) AllReadyH.nil)
                go_simp
                go_at_call 37; refine (cputIn (begE p x) rs W.heap.size D x Ao co Ab cb _ V HEL.out HS13d.out.own.lt HDE.out HS13d.out.pk HS13d.out.b1 trivial HRN.out HMB.out.o0 HMB.out.o1 xo HXB.out HNE.out HVR.out).mono ?_; rintro e20 w20 ⟨e', rs', D', rfl, heq, hel', hgr, hd1, hd2, hde', har'⟩; have HEQ := Go.Lib.hid heq; have HEL' := Go.Lib.hid hel'; have HGR := Go.Lib.hid hgr; have HD1 := Go.Lib.hid hd1; have HD2 := Go.Lib.hid hd2; have HDE' := Go.Lib.hid hde'; have HAR' := Go.Lib.hid har'; clear heq hel' hgr hd1 hd2 hde' har'; dsimp only
                refine hKc.out _ _ (⟨(HGR.out.block _ (Nat.lt_of_lt_of_le (by have := HS13d.out.b0; omega) HS13d.out.b1) (fun e2 => HBR.out _ e2.symm (by have := HS13d.out.b0; omega))).trans HS13d.out.b2, (HGR.out.block _ (Nat.lt_of_lt_of_le (by have := HS13d.out.b0; omega) HS13d.out.b1) (fun e2 => HBR.out _ e2.symm (by have := HS13d.out.b0; omega))).trans HS13d.out.b3⟩) (fun hHeld => ?_)
                clear hKc Kc
                try simp only [Act.put, List.setIfInBounds_toArray, List.set_cons_zero, List.set_cons_succ]
                refine wpAnyH_take (i := 10) (oi := ⟨some 94, _, _, _, _, _⟩) (v := ?_) rfl (by kernel_rfl) (by kernel_rfl) (by kernel_rfl) (fun _ _ _ h => h) (Or.inl ⟨by rfl, ?_⟩) (by assumption) ?_
                rotate_left
                · intro w hSw; (try dsimp only at hSw); go_simp; (try with_reducible rfl)
                try simp only [Act.put, List.setIfInBounds_toArray, List.set_cons_zero, List.set_cons_succ]
                refine wpAnyH_ready (rs := [11]) (by kernel_rfl) (by simp) (AllReadyH.cons (o := ⟨none, _, _, _, _, _⟩) rfl (fun Kc hKc => ?_) AllReadyH.nil)
                rw [if_pos (by rfl)]
                obtain ⟨cur, hcb, hcl, hcr⟩ := OwnB.cur (own_keepA HS13d.out.own.row (fun g hg => HGR.out.block g (by injection hg with hg; have hg : gL = g := hg; omega) (fun e2 => HBG.out g e2.symm hg)) : OwnB w20 W.heap.size (some ⟨gL, 0, none⟩) c' (es ++ [begE p x])) HKN.out.1 e'; have HCR := Go.Lib.hid hcr; clear hcr; refine step_store_any 67 _ _ rfl gL (k * 19) 67 cur (bfL e'.b e'.Ao e'.co e'.Ab e'.cb e'.Ar e'.cr) _ rfl rfl rfl hcb info_bf hcl (fun u hu => el_one [e'] u (List.mem_flatMap.2 ⟨e', List.mem_singleton.2 rfl, hu⟩)) ?_; intro w21 hb21 ho21; have HR21 := Go.Lib.hid (HCR.out w21 hb21); clear hb21
                refine hKc.out _ _ (⟨hHeld.1.only ho21 (by omega), hHeld.2.only ho21 (by omega)⟩) (fun hHeld => ?_)
                clear hKc Kc
                try simp only [Act.put, List.setIfInBounds_toArray, List.set_cons_zero, List.set_cons_succ]
                refine wpAnyH_done (by kernel_rfl) ?_ _
                have HEQ2 : Hid (e'.b = joinB (ownP p x) x) := Go.Lib.hid (by rw [HEQ.out, (find_no (p := p) (x := x) (by rw [HKF.out]; exact hkl)).2.1])
                have HS21 : Hid (TkS w V W.heap.size x Ao co Ab cb w21 (withP p x) (some ⟨gL, 0, none⟩) c' ((es ++ [begE p x]).set k e') D') := Go.Lib.hid (HS13d.out.put HEK.out HEL'.out HGR.out HD1.out HD2.out HDE'.out HAR'.out HR21.out ho21 (with_map_new HS9.out.map HKF.out hkl HEQ.out) rfl rfl rfl)
                have HE11 : Hid (((es ++ [begE p x]).set k e')[k]? = some e') := Go.Lib.hid (List.getElem?_set_self HKN.out.1)
                have HT : Hid (tkO (withP p x) k e'.b = t) := Go.Lib.hid (by rw [← HTK.out, take_code HR.out HMB.out HL.out hnp.out HNA.out HCN.out (by rintro (⟨_, h1⟩ | h1); (have := beq_eq_false_iff_ne.1 hq10; omega); exact hf h1), HKF.out, HEQ2.out])
                have HGJ : Hid (GoodB e'.b p.now) := Go.Lib.hid (by rw [HEQ2.out]; exact join_good (own_pre HR.out x) HMB.out (by have := HL.out; omega) HCN.out)
                go_wp2_with (first
                  | (refine wpList_load_box rfl 42 _ rfl w.heap.size rfl (poL (withP p x) (some ⟨gL, 0, none⟩) c') _ HS21.out.b2 Try.underlying42 rfl info_po ?_)
                  | (go_at_call 38; refine (ctakeOutE (withP p x) gL c' k ((es ++ [begE p x]).set k e') W.heap.size D' w21 e' HE11.out HS21.out.own HS21.out.map (by rw [List.length_set]; exact HKN.out.2) HS21.out.b1 HGJ.out.runs HGJ.out.t1 HGJ.out.opts t HT.out).mono ?_; rintro e22 w22 ⟨A12, c12, Ao12, co12, Ab12, cb12, rfl, hout, y22⟩; have HOUT := Go.Lib.hid hout; have K4 := Go.Lib.hid (HS21.out.b4.keep y22 (by omega)); have K5 := Go.Lib.hid (HS21.out.b5.keep y22 (by omega)); clear hout; dsimp only)
                  | (refine wpList_store_whole rfl 42 _ _ rfl (w.heap.size + 2) _ (poL t.pool A12 c12) rfl rfl K4.out info_po rfl (by simp [Value.oneCell']) ?_; intro wF hbF hoF; have HBF := Go.Lib.hid hbF; clear hbF)
                  | (refine wpList_store_whole rfl 25 _ _ rfl (w.heap.size + 3) _ (pkL t.out Ao12 co12 Ab12 cb12) rfl rfl (K5.out.only hoF (by omega)) info_pk rfl (by simp [Value.oneCell']) ?_; intro wG hbG hoG; have HBG := Go.Lib.hid hbG; clear hbG))
                refine bodyPost_ret (v := .tuple #[poV t.pool A12 c12, ipV t.out Ao12 co12 Ab12 cb12, .bool t.ok, .int .i64 t.err]) (results_cctt (p := 4) (q := 5) (u := 6) (v := 7) rfl _ _ (w.heap.size + 2) (w.heap.size + 3) _ _ _ _ rfl rfl (HBF.out.only hoG (by omega)) HBG.out Try.underlying42 rfl info_po Try.underlying25 rfl info_pk) rfl ?_
                exact ⟨A12, c12, Ao12, co12, Ab12, cb12, rfl, HS21.out.out HOUT.out y22 hoF hoG⟩
                
              ·
                go_simp
                go_at_call 36; refine (cbegin x Ao co Ab cb p.now _).mono ?_; rintro e10 w10 ⟨rfl, y10⟩; have HS10 := Go.Lib.hid (HS9d.out.step y10); clear d3; have d3 := HS10.out.b2.cell 3 rfl; dsimp only
                refine hKc.out _ _ (⟨HS10.out.b2.cell 2 rfl, HS10.out.b3⟩) (fun hHeld => ?_)
                clear hKc Kc
                try simp only [Act.put, List.setIfInBounds_toArray, List.set_cons_zero, List.set_cons_succ]
                refine wpAnyH_ready (rs := [1, 6]) (by kernel_rfl) (by simp) (AllReadyH.cons (o := ⟨some 76, _, _, _, _, _⟩) rfl (fun Kc hKc => ?_) (AllReadyH.cons (o := ⟨some 81, _, _, _, _, _⟩) rfl (fun Kc hKc => ?_) AllReadyH.nil))
                ·
                  go_simp
                  refine hKc.out _ _ (hHeld) (fun hHeld => ?_)
                  clear hKc Kc
                  try simp only [Act.put, List.setIfInBounds_toArray, List.set_cons_zero, List.set_cons_succ]
                  refine wpAnyH_ready (rs := [6]) (by kernel_rfl) (by simp) (AllReadyH.cons (o := ⟨some 81, _, _, _, _, _⟩) rfl (fun Kc hKc => ?_) AllReadyH.nil)
                  go_simp
                  have V11 := Go.Lib.hid (Bxo.made w10 67 (bfL (bgB x p.now) none 0 none 0 none 0)); have y11 : Below w10.heap.size w10 (w10.alloc (oBf (bgB x p.now) none 0 none 0 none 0)) := (Below.refl _ _).alloc (Nat.le_refl _) _; have HS11 := Go.Lib.hid (HS10.out.step y11); clear d3; have d3 := HS11.out.b2.cell 3 rfl; generalize w10.alloc (oBf (bgB x p.now) none 0 none 0 none 0) = w11 at *
                  refine hKc.out _ _ (⟨HS11.out.b2.cell 2 rfl, HS11.out.b3⟩) (fun hHeld => ?_)
                  clear hKc Kc
                  try simp only [Act.put, List.setIfInBounds_toArray, List.set_cons_zero, List.set_cons_succ]
                  refine wpAnyH_ready (rs := [7]) (by kernel_rfl) (by simp) (AllReadyH.cons (o := ⟨some 82, _, _, _, _, _⟩) rfl (fun Kc hKc => ?_) AllReadyH.nil)
                  rw [if_pos (by rfl)]
                  refine step_append_own _ _ 40 rfl W.heap.size 67 i0 _ 19 _ Try.underlying40 hi hz0 hz1 hz2 rfl (by omega) (.slice A1 p.list.length c1) es.length (es.flatMap El.L) rfl (by rw [← HES.out]; exact HS11.out.own.row) ⟨w10.heap.size, 0, none⟩ 1 1 (begE p x).L rfl rfl V11.out.at (fun u hu => el_one [begE p x] u (List.mem_flatMap.2 ⟨begE p x, List.mem_singleton.2 rfl, hu⟩)) (by have := HES.out; unfold maxLen; omega) (by have := HES.out; omega) HS11.out.b1 ?_; intro v12 w12 ho12 hg12 hat12; obtain ⟨A', c', rfl⟩ := own_slice ho12; rw [ownBlock_blk] at hg12 hat12; have HO12 := Go.Lib.hid ho12; have HG12 := Go.Lib.hid hg12; have HAT12 : Hid (blk A' = blk A1 ∨ blk A' = some w11.heap.size) := Go.Lib.hid (by rw [ownBlock_blk] at hat12; exact hat12); clear ho12 hg12 hat12; have K2 := Go.Lib.hid (show Bxo w12 w.heap.size 42 (poL p A1 c1) from (HG12.out.block _ HS11.out.b2.lt (fun e2 => HAB.out _ e2.symm (by omega))).trans HS11.out.b2); have K3 := Go.Lib.hid (show Bxo w12 (w.heap.size + 1) 25 (pkL x Ao co Ab cb) from (HG12.out.block _ HS11.out.b3.lt (fun e2 => HAB.out _ e2.symm (by omega))).trans HS11.out.b3)
                  refine hKc.out _ _ (⟨K2.out.cell 2 rfl, K3.out⟩) (fun hHeld => ?_)
                  clear hKc Kc
                  try simp only [Act.put, List.setIfInBounds_toArray, List.set_cons_zero, List.set_cons_succ]
                  refine wpAnyH_take (i := 8) (oi := ⟨some 83, _, _, _, _, _⟩) (v := ?_) rfl (by kernel_rfl) (by kernel_rfl) (by kernel_rfl) (fun _ _ _ h => h) (Or.inl ⟨by rfl, ?_⟩) (by assumption) ?_
                  rotate_left
                  · intro w hSw; (try dsimp only at hSw); go_simp; (try with_reducible rfl)
                  try simp only [Act.put, List.setIfInBounds_toArray, List.set_cons_zero, List.set_cons_succ]
                  refine wpAnyH_ready (rs := [9]) (by kernel_rfl) (by simp) (AllReadyH.cons (o := ⟨none, _, _, _, _, _⟩) rfl (fun Kc hKc => ?_) AllReadyH.nil)
                  rw [if_pos (by rfl)]
                  refine step_store_any 40 _ _ rfl w.heap.size 3 42 _ [.slice A' (es.length + 1) c'] _ rfl rfl rfl K2.out info_sb (by show 3 + 1 ≤ 4; omega) (by simp [Value.oneCell']) ?_; intro w13 hb13 ho13; have HB13 := Go.Lib.hid hb13; clear hb13
                  refine hKc.out _ _ (⟨HB13.out.cell 2 rfl, K3.out.only ho13 (by omega)⟩) (fun hHeld => ?_)
                  clear hKc Kc
                  try simp only [Act.put, List.setIfInBounds_toArray, List.set_cons_zero, List.set_cons_succ]
                  refine wpAnyH_done (by kernel_rfl) ?_ _
                  have HS13 : Hid (TkS w V W.heap.size x Ao co Ab cb w13 (begP p x) A' c' (es ++ [begE p x]) D) := Go.Lib.hid (HS11.out.push HO12.out HG12.out HAT12.out ho13 (by
                    have h := HB13.out
                    show Bxo w13 _ _ [.int .i64 p.room, .int .i64 p.life, .int .i64 p.now, .slice A' (p.list ++ [newB p x]).length c']
                    rw [List.length_append, ← HES.out]
                    exact h))
                  clear d3
                  have d3 := HS13.out.b2.cell 3 rfl
                  go_upto_region 14 with fail
                  have HS13d := Go.Lib.hid (HS13.out.step (below_drew (Below.refl _ _)))
                  obtain ⟨gL, hA1, hL1, hL2⟩ := (own_addr HS13.out.own.row).resolve_left (by rintro ⟨_, h, _⟩; simp at h)
                  subst hA1
                  have hln : (es ++ [begE p x]).length = p.list.length + 1 := by rw [List.length_append, HES.out]; rfl
                  have HKN : Hid (k < (es ++ [begE p x]).length ∧ (es ++ [begE p x]).length ≤ 16777216) := Go.Lib.hid ⟨by rw [hln]; omega, by rw [hln]; omega⟩
                  have i1 : (0 : Int) ≤ (k : Int) := by omega
                  have i2 : (k : Int) < ((p.list ++ [newB p x]).length : Int) := by rw [List.length_append]; simp; omega
                  have i3 : (k : Int) < (p.list.length : Int) + 1 := by omega
                  have i4 : (k : Int) < ((p.list.length + 1 : Nat) : Int) := by omega
                  have HEK : Hid ((es ++ [begE p x])[k]? = some (begE p x)) := Go.Lib.hid (by
                    have hk' : k = es.length := by have := HES.out; omega
                    rw [hk']; exact List.getElem?_concat_length)
                  obtain ⟨rs, hel⟩ := HS13d.out.own.els _ (List.mem_of_getElem? HEK.out)
                  have HEL := Go.Lib.hid hel
                  have HBR : Hid (∀ g, blk (none : Option Addr) = some g → ¬ g < W.heap.size) := Go.Lib.hid (fun g hg => by cases hg)
                  have HDE : Hid (∀ g, blk (none : Option Addr) = some g → ¬ D g) := Go.Lib.hid (fun g hg => by cases hg)
                  have HBG : Hid (∀ g, blk (none : Option Addr) = some g → ¬ blk (some (⟨gL, 0, none⟩ : Addr)) = some g) := Go.Lib.hid (fun g hg => by cases hg)
                  have HVR : Hid (∀ g, blk (none : Option Addr) = some g → ¬ V g) := Go.Lib.hid (fun g hg => by cases hg)
                  have HRN : Hid ((newB p x).runs.length ≤ 1048576) := Go.Lib.hid (Nat.zero_le _)
                  have HXB : Hid (x.body.length ≤ 65535) := Go.Lib.hid (by omega)
                  have HNE : Hid (∀ r ∈ (newB p x).runs, r.off ≠ x.off) := Go.Lib.hid (fun r hr => by cases hr)
                  have hgw : gL < w13.drew.heap.size := hL2
                  clear hel hln
                  try simp only [Act.put, List.setIfInBounds_toArray, List.set_cons_zero, List.set_cons_succ]
                  refine wp_region_held_drew (S := fun Y => Bxo Y w.heap.size 42 (poL (begP p x) (some ⟨gL, 0, none⟩) c') ∧ Bxo Y (w.heap.size + 1) 25 (pkL x Ao co Ab cb)) (by kernel_rfl) ?_ (fun hHeld => ?_)
                  · exact ⟨HS13d.out.b2, HS13d.out.b3⟩
                  refine wpAnyH_take (i := 0) (oi := ⟨some 84, _, _, _, _, _⟩) (v := ?_) rfl (by kernel_rfl) (by kernel_rfl) (by kernel_rfl) (fun _ _ _ h => h) (Or.inl ⟨by rfl, ?_⟩) (by assumption) ?_
                  rotate_left
                  · intro w hSw; (try dsimp only at hSw); go_simp; (try with_reducible rfl)
                  try simp only [Act.put, List.setIfInBounds_toArray, List.set_cons_zero, List.set_cons_succ]
                  refine wpAnyH_take (i := 1) (oi := ⟨some 85, _, _, _, _, _⟩) (v := ?_) rfl (by kernel_rfl) (by kernel_rfl) (by kernel_rfl) (fun _ _ _ h => h) (Or.inl ⟨by rfl, ?_⟩) (by assumption) ?_
                  rotate_left
                  · intro w hSw; have x3 := hSw.1.cell 3 rfl; (try dsimp only at hSw); go_simp; (try with_reducible rfl)
                  try simp only [Act.put, List.setIfInBounds_toArray, List.set_cons_zero, List.set_cons_succ]
                  refine wpAnyH_take (i := 2) (oi := ⟨some 86, _, _, _, _, _⟩) (v := ?_) rfl (by kernel_rfl) (by kernel_rfl) (by kernel_rfl) (fun _ _ _ h => h) (Or.inl ⟨by rfl, ?_⟩) (by assumption) ?_
                  rotate_left
                  · intro w hSw; (try dsimp only at hSw); go_simp; (try with_reducible rfl)
                  try simp only [Act.put, List.setIfInBounds_toArray, List.set_cons_zero, List.set_cons_succ]
                  refine wpAnyH_take (i := 3) (oi := ⟨some 87, _, _, _, _, _⟩) (v := ?_) rfl (by kernel_rfl) (by kernel_rfl) (by kernel_rfl) (fun _ _ _ h => h) (Or.inl ⟨by rfl, ?_⟩) (by assumption) ?_
                  rotate_left
                  · intro w hSw; (try dsimp only at hSw); go_simp; (try with_reducible rfl)
                  try simp only [Act.put, List.setIfInBounds_toArray, List.set_cons_zero, List.set_cons_succ]
                  refine wpAnyH_take (i := 4) (oi := ⟨some 88, _, _, _, _, _⟩) (v := ?_) rfl (by kernel_rfl) (by kernel_rfl) (by kernel_rfl) (fun _ _ _ h => h) (Or.inl ⟨by rfl, ?_⟩) (by assumption) ?_
                  rotate_left
                  · intro w hSw; have x3 := hSw.1.cell 3 rfl; (try dsimp only at hSw); go_simp; (try with_reducible rfl)
                  try simp only [Act.put, List.setIfInBounds_toArray, List.set_cons_zero, List.set_cons_succ]
                  refine wpAnyH_take (i := 5) (oi := ⟨some 89, _, _, _, _, _⟩) (v := ?_) rfl (by kernel_rfl) (by kernel_rfl) (by kernel_rfl) (fun _ _ _ h => h) (Or.inl ⟨by rfl, ?_⟩) (by assumption) ?_
                  rotate_left
                  · intro w hSw; (try dsimp only at hSw); go_simp; (try with_reducible rfl)
                  try simp only [Act.put, List.setIfInBounds_toArray, List.set_cons_zero, List.set_cons_succ]
                  refine wpAnyH_take (i := 6) (oi := ⟨some 90, _, _, _, _, _⟩) (v := ?_) rfl (by kernel_rfl) (by kernel_rfl) (by kernel_rfl) (fun _ _ _ h => h) (Or.inl ⟨by rfl, ?_⟩) (by assumption) ?_
                  rotate_left
                  · intro w hSw; (try dsimp only at hSw); go_simp; (try with_reducible rfl)
                  try simp only [Act.put, List.setIfInBounds_toArray, List.set_cons_zero, List.set_cons_succ]
                  refine wpAnyH_take (i := 8) (oi := ⟨some 92, _, _, _, _, _⟩) (v := ipV x Ao co Ab cb) rfl (by kernel_rfl) (by kernel_rfl) (by kernel_rfl) (fun _ _ _ h => h) (yieldsIf_pk (by rfl) _ rfl ⟨w.heap.size + 1, 0, none⟩ rfl x Ao co Ab cb (fun Y h => h.2.at)) (by assumption) ?_
                  try simp only [Act.put, List.setIfInBounds_toArray, List.set_cons_zero, List.set_cons_succ]
                  refine wpAnyH_ready (rs := [7]) (by kernel_rfl) (by simp) (AllReadyH.cons (o := ⟨some 91, _, _, _, _, _⟩) rfl (fun Kc hKc => ?_) AllReadyH.nil)
                  rw [if_pos (by rfl)]
                  refine step_load_at 67 _ rfl ⟨gL, k * 19, none⟩ rfl (bfL (newB p x) none 0 none 0 none 0) _ (bfc HS13d.out.own HEK.out) Try.underlying67 rfl info_bf ?_
                  refine hKc.out _ _ (hHeld) (fun hHeld => ?_)
                  clear hKc Kc
                  try simp only [Act.put, List.setIfInBounds_toArray, List.set_cons_zero, List.set_cons_succ]
                  refine wpAnyH_ready (rs := [9]) (by kernel_rfl) (by simp) (AllReadyH.cons (o := ⟨some 93, _, _, _, _, _⟩) rfl (fun Kc hKc => ?_) AllReadyH.nil)
                  go_simp
                  go_at_call 37; refine (cputIn (begE p x) rs W.heap.size D x Ao co Ab cb _ V HEL.out HS13d.out.own.lt HDE.out HS13d.out.pk HS13d.out.b1 trivial HRN.out HMB.out.o0 HMB.out.o1 xo HXB.out HNE.out HVR.out).mono ?_; rintro e20 w20 ⟨e', rs', D', rfl, heq, hel', hgr, hd1, hd2, hde', har'⟩; have HEQ := Go.Lib.hid heq; have HEL' := Go.Lib.hid hel'; have HGR := Go.Lib.hid hgr; have HD1 := Go.Lib.hid hd1; have HD2 := Go.Lib.hid hd2; have HDE' := Go.Lib.hid hde'; have HAR' := Go.Lib.hid har'; clear heq hel' hgr hd1 hd2 hde' har'; dsimp only
                  refine hKc.out _ _ (⟨(HGR.out.block _ (Nat.lt_of_lt_of_le (by have := HS13d.out.b0; omega) HS13d.out.b1) (fun e2 => HBR.out _ e2.symm (by have := HS13d.out.b0; omega))).trans HS13d.out.b2, (HGR.out.block _ (Nat.lt_of_lt_of_le (by have := HS13d.out.b0; omega) HS13d.out.b1) (fun e2 => HBR.out _ e2.symm (by have := HS13d.out.b0; omega))).trans HS13d.out.b3⟩) (fun hHeld => ?_)
                  clear hKc Kc
                  try simp only [Act.put, List.setIfInBounds_toArray, List.set_cons_zero, List.set_cons_succ]
                  refine wpAnyH_take (i := 10) (oi := ⟨some 94, _, _, _, _, _⟩) (v := ?_) rfl (by kernel_rfl) (by kernel_rfl) (by kernel_rfl) (fun _ _ _ h => h) (Or.inl ⟨by rfl, ?_⟩) (by assumption) ?_
                  rotate_left
                  · intro w hSw; (try dsimp only at hSw); go_simp; (try with_reducible rfl)
                  try simp only [Act.put, List.setIfInBounds_toArray, List.set_cons_zero, List.set_cons_succ]
                  refine wpAnyH_ready (rs := [11]) (by kernel_rfl) (by simp) (AllReadyH.cons (o := ⟨none, _, _, _, _, _⟩) rfl (fun Kc hKc => ?_) AllReadyH.nil)
                  rw [if_pos (by rfl)]
                  obtain ⟨cur, hcb, hcl, hcr⟩ := OwnB.cur (own_keepA HS13d.out.own.row (fun g hg => HGR.out.block g (by injection hg with hg; have hg : gL = g := hg; omega) (fun e2 => HBG.out g e2.symm hg)) : OwnB w20 W.heap.size (some ⟨gL, 0, none⟩) c' (es ++ [begE p x])) HKN.out.1 e'; have HCR := Go.Lib.hid hcr; clear hcr; refine step_store_any 67 _ _ rfl gL (k * 19) 67 cur (bfL e'.b e'.Ao e'.co e'.Ab e'.cb e'.Ar e'.cr) _ rfl rfl rfl hcb info_bf hcl (fun u hu => el_one [e'] u (List.mem_flatMap.2 ⟨e', List.mem_singleton.2 rfl, hu⟩)) ?_; intro w21 hb21 ho21; have HR21 := Go.Lib.hid (HCR.out w21 hb21); clear hb21
                  refine hKc.out _ _ (⟨hHeld.1.only ho21 (by omega), hHeld.2.only ho21 (by omega)⟩) (fun hHeld => ?_)
                  clear hKc Kc
                  try simp only [Act.put, List.setIfInBounds_toArray, List.set_cons_zero, List.set_cons_succ]
                  refine wpAnyH_done (by kernel_rfl) ?_ _
                  have HEQ2 : Hid (e'.b = joinB (ownP p x) x) := Go.Lib.hid (by rw [HEQ.out, (find_no (p := p) (x := x) (by rw [HKF.out]; exact hkl)).2.1])
                  have HS21 : Hid (TkS w V W.heap.size x Ao co Ab cb w21 (withP p x) (some ⟨gL, 0, none⟩) c' ((es ++ [begE p x]).set k e') D') := Go.Lib.hid (HS13d.out.put HEK.out HEL'.out HGR.out HD1.out HD2.out HDE'.out HAR'.out HR21.out ho21 (with_map_new HS9.out.map HKF.out hkl HEQ.out) rfl rfl rfl)
                  have HE11 : Hid (((es ++ [begE p x]).set k e')[k]? = some e') := Go.Lib.hid (List.getElem?_set_self HKN.out.1)
                  have HT : Hid (tkO (withP p x) k e'.b = t) := Go.Lib.hid (by rw [← HTK.out, take_code HR.out HMB.out HL.out hnp.out HNA.out HCN.out (by rintro (⟨_, h1⟩ | h1); (have := beq_eq_false_iff_ne.1 hq10; omega); exact hf h1), HKF.out, HEQ2.out])
                  have HGJ : Hid (GoodB e'.b p.now) := Go.Lib.hid (by rw [HEQ2.out]; exact join_good (own_pre HR.out x) HMB.out (by have := HL.out; omega) HCN.out)
                  go_wp2_with (first
                    | (refine wpList_load_box rfl 42 _ rfl w.heap.size rfl (poL (withP p x) (some ⟨gL, 0, none⟩) c') _ HS21.out.b2 Try.underlying42 rfl info_po ?_)
                    | (go_at_call 38; refine (ctakeOutE (withP p x) gL c' k ((es ++ [begE p x]).set k e') W.heap.size D' w21 e' HE11.out HS21.out.own HS21.out.map (by rw [List.length_set]; exact HKN.out.2) HS21.out.b1 HGJ.out.runs HGJ.out.t1 HGJ.out.opts t HT.out).mono ?_; rintro e22 w22 ⟨A12, c12, Ao12, co12, Ab12, cb12, rfl, hout, y22⟩; have HOUT := Go.Lib.hid hout; have K4 := Go.Lib.hid (HS21.out.b4.keep y22 (by omega)); have K5 := Go.Lib.hid (HS21.out.b5.keep y22 (by omega)); clear hout; dsimp only)
                    | (refine wpList_store_whole rfl 42 _ _ rfl (w.heap.size + 2) _ (poL t.pool A12 c12) rfl rfl K4.out info_po rfl (by simp [Value.oneCell']) ?_; intro wF hbF hoF; have HBF := Go.Lib.hid hbF; clear hbF)
                    | (refine wpList_store_whole rfl 25 _ _ rfl (w.heap.size + 3) _ (pkL t.out Ao12 co12 Ab12 cb12) rfl rfl (K5.out.only hoF (by omega)) info_pk rfl (by simp [Value.oneCell']) ?_; intro wG hbG hoG; have HBG := Go.Lib.hid hbG; clear hbG))
                  refine bodyPost_ret (v := .tuple #[poV t.pool A12 c12, ipV t.out Ao12 co12 Ab12 cb12, .bool t.ok, .int .i64 t.err]) (results_cctt (p := 4) (q := 5) (u := 6) (v := 7) rfl _ _ (w.heap.size + 2) (w.heap.size + 3) _ _ _ _ rfl rfl (HBF.out.only hoG (by omega)) HBG.out Try.underlying42 rfl info_po Try.underlying25 rfl info_pk) rfl ?_
                  exact ⟨A12, c12, Ao12, co12, Ab12, cb12, rfl, HS21.out.out HOUT.out y22 hoF hoG⟩
                  
                ·
                  go_simp
                  have V11 := Go.Lib.hid (Bxo.made w10 67 (bfL (bgB x p.now) none 0 none 0 none 0)); have y11 : Below w10.heap.size w10 (w10.alloc (oBf (bgB x p.now) none 0 none 0 none 0)) := (Below.refl _ _).alloc (Nat.le_refl _) _; have HS11 := Go.Lib.hid (HS10.out.step y11); clear d3; have d3 := HS11.out.b2.cell 3 rfl; generalize w10.alloc (oBf (bgB x p.now) none 0 none 0 none 0) = w11 at *
                  refine hKc.out _ _ (⟨HS11.out.b2.cell 2 rfl, HS11.out.b3⟩) (fun hHeld => ?_)
                  clear hKc Kc
                  try simp only [Act.put, List.setIfInBounds_toArray, List.set_cons_zero, List.set_cons_succ]
                  refine wpAnyH_ready (rs := [1]) (by kernel_rfl) (by simp) (AllReadyH.cons (o := ⟨some 76, _, _, _, _, _⟩) rfl (fun Kc hKc => ?_) AllReadyH.nil)
                  go_simp
                  refine hKc.out _ _ (hHeld) (fun hHeld => ?_)
                  clear hKc Kc
                  try simp only [Act.put, List.setIfInBounds_toArray, List.set_cons_zero, List.set_cons_succ]
                  refine wpAnyH_ready (rs := [7]) (by kernel_rfl) (by simp) (AllReadyH.cons (o := ⟨some 82, _, _, _, _, _⟩) rfl (fun Kc hKc => ?_) AllReadyH.nil)
                  rw [if_pos (by rfl)]
                  refine step_append_own _ _ 40 rfl W.heap.size 67 i0 _ 19 _ Try.underlying40 hi hz0 hz1 hz2 rfl (by omega) (.slice A1 p.list.length c1) es.length (es.flatMap El.L) rfl (by rw [← HES.out]; exact HS11.out.own.row) ⟨w10.heap.size, 0, none⟩ 1 1 (begE p x).L rfl rfl V11.out.at (fun u hu => el_one [begE p x] u (List.mem_flatMap.2 ⟨begE p x, List.mem_singleton.2 rfl, hu⟩)) (by have := HES.out; unfold maxLen; omega) (by have := HES.out; omega) HS11.out.b1 ?_; intro v12 w12 ho12 hg12 hat12; obtain ⟨A', c', rfl⟩ := own_slice ho12; rw [ownBlock_blk] at hg12 hat12; have HO12 := Go.Lib.hid ho12; have HG12 := Go.Lib.hid hg12; have HAT12 : Hid (blk A' = blk A1 ∨ blk A' = some w11.heap.size) := Go.Lib.hid (by rw [ownBlock_blk] at hat12; exact hat12); clear ho12 hg12 hat12; have K2 := Go.Lib.hid (show Bxo w12 w.heap.size 42 (poL p A1 c1) from (HG12.out.block _ HS11.out.b2.lt (fun e2 => HAB.out _ e2.symm (by omega))).trans HS11.out.b2); have K3 := Go.Lib.hid (show Bxo w12 (w.heap.size + 1) 25 (pkL x Ao co Ab cb) from (HG12.out.block _ HS11.out.b3.lt (fun e2 => HAB.out _ e2.symm (by omega))).trans HS11.out.b3)
                  refine hKc.out _ _ (⟨K2.out.cell 2 rfl, K3.out⟩) (fun hHeld => ?_)
                  clear hKc Kc
                  try simp only [Act.put, List.setIfInBounds_toArray, List.set_cons_zero, List.set_cons_succ]
                  refine wpAnyH_take (i := 8) (oi := ⟨some 83, _, _, _, _, _⟩) (v := ?_) rfl (by kernel_rfl) (by kernel_rfl) (by kernel_rfl) (fun _ _ _ h => h) (Or.inl ⟨by rfl, ?_⟩) (by assumption) ?_
                  rotate_left
                  · intro w hSw; (try dsimp only at hSw); go_simp; (try with_reducible rfl)
                  try simp only [Act.put, List.setIfInBounds_toArray, List.set_cons_zero, List.set_cons_succ]
                  refine wpAnyH_ready (rs := [9]) (by kernel_rfl) (by simp) (AllReadyH.cons (o := ⟨none, _, _, _, _, _⟩) rfl (fun Kc hKc => ?_) AllReadyH.nil)
                  rw [if_pos (by rfl)]
                  refine step_store_any 40 _ _ rfl w.heap.size 3 42 _ [.slice A' (es.length + 1) c'] _ rfl rfl rfl K2.out info_sb (by show 3 + 1 ≤ 4; omega) (by simp [Value.oneCell']) ?_; intro w13 hb13 ho13; have HB13 := Go.Lib.hid hb13; clear hb13
                  refine hKc.out _ _ (⟨HB13.out.cell 2 rfl, K3.out.only ho13 (by omega)⟩) (fun hHeld => ?_)
                  clear hKc Kc
                  try simp only [Act.put, List.setIfInBounds_toArray, List.set_cons_zero, List.set_cons_succ]
                  refine wpAnyH_done (by kernel_rfl) ?_ _
                  have HS13 : Hid (TkS w V W.heap.size x Ao co Ab cb w13 (begP p x) A' c' (es ++ [begE p x]) D) := Go.Lib.hid (HS11.out.push HO12.out HG12.out HAT12.out ho13 (by
                    have h := HB13.out
                    show Bxo w13 _ _ [.int .i64 p.room, .int .i64 p.life, .int .i64 p.now, .slice A' (p.list ++ [newB p x]).length c']
                    rw [List.length_append, ← HES.out]
                    exact h))
                  clear d3
                  have d3 := HS13.out.b2.cell 3 rfl
                  go_upto_region 14 with fail
                  have HS13d := Go.Lib.hid (HS13.out.step (below_drew (Below.refl _ _)))
                  obtain ⟨gL, hA1, hL1, hL2⟩ := (own_addr HS13.out.own.row).resolve_left (by rintro ⟨_, h, _⟩; simp at h)
                  subst hA1
                  have hln : (es ++ [begE p x]).length = p.list.length + 1 := by rw [List.length_append, HES.out]; rfl
                  have HKN : Hid (k < (es ++ [begE p x]).length ∧ (es ++ [begE p x]).length ≤ 16777216) := Go.Lib.hid ⟨by rw [hln]; omega, by rw [hln]; omega⟩
                  have i1 : (0 : Int) ≤ (k : Int) := by omega
                  have i2 : (k : Int) < ((p.list ++ [newB p x]).length : Int) := by rw [List.length_append]; simp; omega
                  have i3 : (k : Int) < (p.list.length : Int) + 1 := by omega
                  have i4 : (k : Int) < ((p.list.length + 1 : Nat) : Int) := by omega
                  have HEK : Hid ((es ++ [begE p x])[k]? = some (begE p x)) := Go.Lib.hid (by
                    have hk' : k = es.length := by have := HES.out; omega
                    rw [hk']; exact List.getElem?_concat_length)
                  obtain ⟨rs, hel⟩ := HS13d.out.own.els _ (List.mem_of_getElem? HEK.out)
                  have HEL := Go.Lib.hid hel
                  have HBR : Hid (∀ g, blk (none : Option Addr) = some g → ¬ g < W.heap.size) := Go.Lib.hid (fun g hg => by cases hg)
                  have HDE : Hid (∀ g, blk (none : Option Addr) = some g → ¬ D g) := Go.Lib.hid (fun g hg => by cases hg)
                  have HBG : Hid (∀ g, blk (none : Option Addr) = some g → ¬ blk (some (⟨gL, 0, none⟩ : Addr)) = some g) := Go.Lib.hid (fun g hg => by cases hg)
                  have HVR : Hid (∀ g, blk (none : Option Addr) = some g → ¬ V g) := Go.Lib.hid (fun g hg => by cases hg)
                  have HRN : Hid ((newB p x).runs.length ≤ 1048576) := Go.Lib.hid (Nat.zero_le _)
                  have HXB : Hid (x.body.length ≤ 65535) := Go.Lib.hid (by omega)
                  have HNE : Hid (∀ r ∈ (newB p x).runs, r.off ≠ x.off) := Go.Lib.hid (fun r hr => by cases hr)
                  have hgw : gL < w13.drew.heap.size := hL2
                  clear hel hln
                  try simp only [Act.put, List.setIfInBounds_toArray, List.set_cons_zero, List.set_cons_succ]
                  refine wp_region_held_drew (S := fun Y => Bxo Y w.heap.size 42 (poL (begP p x) (some ⟨gL, 0, none⟩) c') ∧ Bxo Y (w.heap.size + 1) 25 (pkL x Ao co Ab cb)) (by kernel_rfl) ?_ (fun hHeld => ?_)
                  · exact ⟨HS13d.out.b2, HS13d.out.b3⟩
                  refine wpAnyH_take (i := 0) (oi := ⟨some 84, _, _, _, _, _⟩) (v := ?_) rfl (by kernel_rfl) (by kernel_rfl) (by kernel_rfl) (fun _ _ _ h => h) (Or.inl ⟨by rfl, ?_⟩) (by assumption) ?_
                  rotate_left
                  · intro w hSw; (try dsimp only at hSw); go_simp; (try with_reducible rfl)
                  try simp only [Act.put, List.setIfInBounds_toArray, List.set_cons_zero, List.set_cons_succ]
                  refine wpAnyH_take (i := 1) (oi := ⟨some 85, _, _, _, _, _⟩) (v := ?_) rfl (by kernel_rfl) (by kernel_rfl) (by kernel_rfl) (fun _ _ _ h => h) (Or.inl ⟨by rfl, ?_⟩) (by assumption) ?_
                  rotate_left
                  · intro w hSw; have x3 := hSw.1.cell 3 rfl; (try dsimp only at hSw); go_simp; (try with_reducible rfl)
                  try simp only [Act.put, List.setIfInBounds_toArray, List.set_cons_zero, List.set_cons_succ]
                  refine wpAnyH_take (i := 2) (oi := ⟨some 86, _, _, _, _, _⟩) (v := ?_) rfl (by kernel_rfl) (by kernel_rfl) (by kernel_rfl) (fun _ _ _ h => h) (Or.inl ⟨by rfl, ?_⟩) (by assumption) ?_
                  rotate_left
                  · intro w hSw; (try dsimp only at hSw); go_simp; (try with_reducible rfl)
                  try simp only [Act.put, List.setIfInBounds_toArray, List.set_cons_zero, List.set_cons_succ]
                  refine wpAnyH_take (i := 3) (oi := ⟨some 87, _, _, _, _, _⟩) (v := ?_) rfl (by kernel_rfl) (by kernel_rfl) (by kernel_rfl) (fun _ _ _ h => h) (Or.inl ⟨by rfl, ?_⟩) (by assumption) ?_
                  rotate_left
                  · intro w hSw; (try dsimp only at hSw); go_simp; (try with_reducible rfl)
                  try simp only [Act.put, List.setIfInBounds_toArray, List.set_cons_zero, List.set_cons_succ]
                  refine wpAnyH_take (i := 4) (oi := ⟨some 88, _, _, _, _, _⟩) (v := ?_) rfl (by kernel_rfl) (by kernel_rfl) (by kernel_rfl) (fun _ _ _ h => h) (Or.inl ⟨by rfl, ?_⟩) (by assumption) ?_
                  rotate_left
                  · intro w hSw; have x3 := hSw.1.cell 3 rfl; (try dsimp only at hSw); go_simp; (try with_reducible rfl)
                  try simp only [Act.put, List.setIfInBounds_toArray, List.set_cons_zero, List.set_cons_succ]
                  refine wpAnyH_take (i := 5) (oi := ⟨some 89, _, _, _, _, _⟩) (v := ?_) rfl (by kernel_rfl) (by kernel_rfl) (by kernel_rfl) (fun _ _ _ h => h) (Or.inl ⟨by rfl, ?_⟩) (by assumption) ?_
                  rotate_left
                  · intro w hSw; (try dsimp only at hSw); go_simp; (try with_reducible rfl)
                  try simp only [Act.put, List.setIfInBounds_toArray, List.set_cons_zero, List.set_cons_succ]
                  refine wpAnyH_take (i := 6) (oi := ⟨some 90, _, _, _, _, _⟩) (v := ?_) rfl (by kernel_rfl) (by kernel_rfl) (by kernel_rfl) (fun _ _ _ h => h) (Or.inl ⟨by rfl, ?_⟩) (by assumption) ?_
                  rotate_left
                  · intro w hSw; (try dsimp only at hSw); go_simp; (try with_reducible rfl)
                  try simp only [Act.put, List.setIfInBounds_toArray, List.set_cons_zero, List.set_cons_succ]
                  refine wpAnyH_take (i := 8) (oi := ⟨some 92, _, _, _, _, _⟩) (v := ipV x Ao co Ab cb) rfl (by kernel_rfl) (by kernel_rfl) (by kernel_rfl) (fun _ _ _ h => h) (yieldsIf_pk (by rfl) _ rfl ⟨w.heap.size + 1, 0, none⟩ rfl x Ao co Ab cb (fun Y h => h.2.at)) (by assumption) ?_
                  try simp only [Act.put, List.setIfInBounds_toArray, List.set_cons_zero, List.set_cons_succ]
                  refine wpAnyH_ready (rs := [7]) (by kernel_rfl) (by simp) (AllReadyH.cons (o := ⟨some 91, _, _, _, _, _⟩) rfl (fun Kc hKc => ?_) AllReadyH.nil)
                  rw [if_pos (by rfl)]
                  refine step_load_at 67 _ rfl ⟨gL, k * 19, none⟩ rfl (bfL (newB p x) none 0 none 0 none 0) _ (bfc HS13d.out.own HEK.out) Try.underlying67 rfl info_bf ?_
                  refine hKc.out _ _ (hHeld) (fun hHeld => ?_)
                  clear hKc Kc
                  try simp only [Act.put, List.setIfInBounds_toArray, List.set_cons_zero, List.set_cons_succ]
                  refine wpAnyH_ready (rs := [9]) (by kernel_rfl) (by simp) (AllReadyH.cons (o := ⟨some 93, _, _, _, _, _⟩) rfl (fun Kc hKc => ?_) AllReadyH.nil)
                  go_simp
                  go_at_call 37; refine (cputIn (begE p x) rs W.heap.size D x Ao co Ab cb _ V HEL.out HS13d.out.own.lt HDE.out HS13d.out.pk HS13d.out.b1 trivial HRN.out HMB.out.o0 HMB.out.o1 xo HXB.out HNE.out HVR.out).mono ?_; rintro e20 w20 ⟨e', rs', D', rfl, heq, hel', hgr, hd1, hd2, hde', har'⟩; have HEQ := Go.Lib.hid heq; have HEL' := Go.Lib.hid hel'; have HGR := Go.Lib.hid hgr; have HD1 := Go.Lib.hid hd1; have HD2 := Go.Lib.hid hd2; have HDE' := Go.Lib.hid hde'; have HAR' := Go.Lib.hid har'; clear heq hel' hgr hd1 hd2 hde' har'; dsimp only
                  refine hKc.out _ _ (⟨(HGR.out.block _ (Nat.lt_of_lt_of_le (by have := HS13d.out.b0; omega) HS13d.out.b1) (fun e2 => HBR.out _ e2.symm (by have := HS13d.out.b0; omega))).trans HS13d.out.b2, (HGR.out.block _ (Nat.lt_of_lt_of_le (by have := HS13d.out.b0; omega) HS13d.out.b1) (fun e2 => HBR.out _ e2.symm (by have := HS13d.out.b0; omega))).trans HS13d.out.b3⟩) (fun hHeld => ?_)
                  clear hKc Kc
                  try simp only [Act.put, List.setIfInBounds_toArray, List.set_cons_zero, List.set_cons_succ]
                  refine wpAnyH_take (i := 10) (oi := ⟨some 94, _, _, _, _, _⟩) (v := ?_) rfl (by kernel_rfl) (by kernel_rfl) (by kernel_rfl) (fun _ _ _ h => h) (Or.inl ⟨by rfl, ?_⟩) (by assumption) ?_
                  rotate_left
                  · intro w hSw; (try dsimp only at hSw); go_simp; (try with_reducible rfl)
                  try simp only [Act.put, List.setIfInBounds_toArray, List.set_cons_zero, List.set_cons_succ]
                  refine wpAnyH_ready (rs := [11]) (by kernel_rfl) (by simp) (AllReadyH.cons (o := ⟨none, _, _, _, _, _⟩) rfl (fun Kc hKc => ?_) AllReadyH.nil)
                  rw [if_pos (by rfl)]
                  obtain ⟨cur, hcb, hcl, hcr⟩ := OwnB.cur (own_keepA HS13d.out.own.row (fun g hg => HGR.out.block g (by injection hg with hg; have hg : gL = g := hg; omega) (fun e2 => HBG.out g e2.symm hg)) : OwnB w20 W.heap.size (some ⟨gL, 0, none⟩) c' (es ++ [begE p x])) HKN.out.1 e'; have HCR := Go.Lib.hid hcr; clear hcr; refine step_store_any 67 _ _ rfl gL (k * 19) 67 cur (bfL e'.b e'.Ao e'.co e'.Ab e'.cb e'.Ar e'.cr) _ rfl rfl rfl hcb info_bf hcl (fun u hu => el_one [e'] u (List.mem_flatMap.2 ⟨e', List.mem_singleton.2 rfl, hu⟩)) ?_; intro w21 hb21 ho21; have HR21 := Go.Lib.hid (HCR.out w21 hb21); clear hb21
                  refine hKc.out _ _ (⟨hHeld.1.only ho21 (by omega), hHeld.2.only ho21 (by omega)⟩) (fun hHeld => ?_)
                  clear hKc Kc
                  try simp only [Act.put, List.setIfInBounds_toArray, List.set_cons_zero, List.set_cons_succ]
                  refine wpAnyH_done (by kernel_rfl) ?_ _
                  have HEQ2 : Hid (e'.b = joinB (ownP p x) x) := Go.Lib.hid (by rw [HEQ.out, (find_no (p := p) (x := x) (by rw [HKF.out]; exact hkl)).2.1])
                  have HS21 : Hid (TkS w V W.heap.size x Ao co Ab cb w21 (withP p x) (some ⟨gL, 0, none⟩) c' ((es ++ [begE p x]).set k e') D') := Go.Lib.hid (HS13d.out.put HEK.out HEL'.out HGR.out HD1.out HD2.out HDE'.out HAR'.out HR21.out ho21 (with_map_new HS9.out.map HKF.out hkl HEQ.out) rfl rfl rfl)
                  have HE11 : Hid (((es ++ [begE p x]).set k e')[k]? = some e') := Go.Lib.hid (List.getElem?_set_self HKN.out.1)
                  have HT : Hid (tkO (withP p x) k e'.b = t) := Go.Lib.hid (by rw [← HTK.out, take_code HR.out HMB.out HL.out hnp.out HNA.out HCN.out (by rintro (⟨_, h1⟩ | h1); (have := beq_eq_false_iff_ne.1 hq10; omega); exact hf h1), HKF.out, HEQ2.out])
                  have HGJ : Hid (GoodB e'.b p.now) := Go.Lib.hid (by rw [HEQ2.out]; exact join_good (own_pre HR.out x) HMB.out (by have := HL.out; omega) HCN.out)
                  go_wp2_with (first
                    | (refine wpList_load_box rfl 42 _ rfl w.heap.size rfl (poL (withP p x) (some ⟨gL, 0, none⟩) c') _ HS21.out.b2 Try.underlying42 rfl info_po ?_)
                    | (go_at_call 38; refine (ctakeOutE (withP p x) gL c' k ((es ++ [begE p x]).set k e') W.heap.size D' w21 e' HE11.out HS21.out.own HS21.out.map (by rw [List.length_set]; exact HKN.out.2) HS21.out.b1 HGJ.out.runs HGJ.out.t1 HGJ.out.opts t HT.out).mono ?_; rintro e22 w22 ⟨A12, c12, Ao12, co12, Ab12, cb12, rfl, hout, y22⟩; have HOUT := Go.Lib.hid hout; have K4 := Go.Lib.hid (HS21.out.b4.keep y22 (by omega)); have K5 := Go.Lib.hid (HS21.out.b5.keep y22 (by omega)); clear hout; dsimp only)
                    | (refine wpList_store_whole rfl 42 _ _ rfl (w.heap.size + 2) _ (poL t.pool A12 c12) rfl rfl K4.out info_po rfl (by simp [Value.oneCell']) ?_; intro wF hbF hoF; have HBF := Go.Lib.hid hbF; clear hbF)
                    | (refine wpList_store_whole rfl 25 _ _ rfl (w.heap.size + 3) _ (pkL t.out Ao12 co12 Ab12 cb12) rfl rfl (K5.out.only hoF (by omega)) info_pk rfl (by simp [Value.oneCell']) ?_; intro wG hbG hoG; have HBG := Go.Lib.hid hbG; clear hbG))
                  refine bodyPost_ret (v := .tuple #[poV t.pool A12 c12, ipV t.out Ao12 co12 Ab12 cb12, .bool t.ok, .int .i64 t.err]) (results_cctt (p := 4) (q := 5) (u := 6) (v := 7) rfl _ _ (w.heap.size + 2) (w.heap.size + 3) _ _ _ _ rfl rfl (HBF.out.only hoG (by omega)) HBG.out Try.underlying42 rfl info_po Try.underlying25 rfl info_pk) rfl ?_
                  exact ⟨A12, c12, Ao12, co12, Ab12, cb12, rfl, HS21.out.out HOUT.out y22 hoF hoG⟩
                  
            
          
        
        

end Go.Proofs.Ytmblkgnjcmneeaa
