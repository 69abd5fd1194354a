/- Lemmas, several texts in one. -/
import Derived.Test.YtmblkgnjcmneeaaQ07
/- The contract of package reasm's copyPacket. -/
namespace Go.Proofs.Ytmblkgnjcmneeaa
open Go.ChangeShapes Go.WideShapes Go.ChangeAt Go.RowKit
set_option linter.unusedVariables false
set_option linter.unusedSimpArgs false

set_option maxRecDepth 100000 in
set_option maxHeartbeats 4000000 in
theorem ccopyPacket (x : Pk) (Ao : Option Addr) (co : Nat) (Ab : Option Addr) (cb : Nat) (w : World) (V : Nat → Prop) (hx : PkAt w V x Ao co Ab cb) (ho : x.opts.length ≤ 16777216) (hb : x.body.length ≤ 16777216) :
    Calls Try.prog 29 #[ipV x Ao co Ab cb] w fun e w' => ∃ A2 c2 A3 c3, e = .returned (ipV x A2 c2 A3 c3) ∧ PkAt w' (growV V w w') x A2 c2 A3 c3 ∧ Below w.heap.size w w' := by
  have HV := Go.Lib.hid hx.lt
  have HS := Go.Lib.hid (And.intro hx.s0 (And.intro hx.s1 (And.intro hx.d0 hx.d1)))
  have y0 : Below w.heap.size w ((w.alloc (oPk x Ao co Ab cb)).alloc (oPk pk0 none 0 none 0)) := below_alloc (below_alloc (Below.refl _ _) (Nat.le_refl _) _) (by simp) _
  have h1 := (Bxo.made w 25 (pkL x Ao co Ab cb)).alloc (oPk pk0 none 0 none 0)
  have h2 : Bxo ((w.alloc (oPk x Ao co Ab cb)).alloc (oPk pk0 none 0 none 0)) (w.heap.size + 1) 25 (pkL pk0 none 0 none 0) := by
    have := Bxo.made (w.alloc (oPk x Ao co Ab cb)) 25 (pkL pk0 none 0 none 0)
    simpa using this
  have hz : ((w.alloc (oPk x Ao co Ab cb)).alloc (oPk pk0 none 0 none 0)).heap.size = w.heap.size + 2 := by simp
  have hxo := hx.at y0
  have HN1 : Hid (¬ V w.heap.size) := Go.Lib.hid (fun h => Nat.lt_irrefl _ (hx.lt _ h))
  have HN2 : Hid (¬ V (w.heap.size + 1)) := Go.Lib.hid (fun h => by have := hx.lt _ h; omega)
  have q1 := hx.o.len
  have q2 := hx.o.cap
  have q3 := hx.b.len
  have q4 := hx.b.cap
  clear hx
  go_enter Try.func29, Try.ntmps29
  go_upto_region 1 with fail
  generalize ((w.alloc (oPk x Ao co Ab cb)).alloc (oPk pk0 none 0 none 0)) = W at *
  try simp only [Act.put, List.setIfInBounds_toArray, List.set_cons_zero, List.set_cons_succ]
  refine wp_region_held_drew (S := fun Y => Below w.heap.size w Y) (by kernel_rfl) ?_ (fun hHeld => ?_)
  · exact y0.drew
  have H1 : Hid (Bxo W.drew w.heap.size 25 (pkL x Ao co Ab cb)) := Go.Lib.hid h1
  have H2 : Hid (Bxo W.drew (w.heap.size + 1) 25 (pkL pk0 none 0 none 0)) := Go.Lib.hid h2
  have hzd : W.drew.heap.size = w.heap.size + 2 := hz
  have hxd := hxo.at (show Below W.heap.size W W.drew from (Below.refl _ _).drew)
  clear h1 h2 hz hxo y0
  generalize W.drew = W1 at *
  have l1 : w.heap.size < W1.heap.size := by omega
  have l2 : w.heap.size + 1 < W1.heap.size := by omega
  have HO := Go.Lib.hid hxd.o
  have HBo := Go.Lib.hid hxd.b
  have HLT := Go.Lib.hid hxd.lt
  clear hxd
  have c9 := H1.out.cell 9 rfl
  have c10 := H1.out.cell 10 rfl
  refine wpAnyH_take (i := 0) (oi := ⟨some 3, _, _, _, _, _⟩) (v := ?_) rfl (by kernel_rfl) (by kernel_rfl) (by kernel_rfl) (fun _ _ _ h => h) (Or.inl ⟨by rfl, ?_⟩) (by assumption) ?_
  rotate_left
  · intro w hSw; (try dsimp only at hSw); go_simp; (try with_reducible rfl)
  try simp only [Act.put, List.setIfInBounds_toArray, List.set_cons_zero, List.set_cons_succ]
  refine wpAnyH_take (i := 3) (oi := ⟨some 6, _, _, _, _, _⟩) (v := ?_) rfl (by kernel_rfl) (by kernel_rfl) (by kernel_rfl) (fun _ _ _ h => h) (Or.inl ⟨by rfl, ?_⟩) (by assumption) ?_
  rotate_left
  · intro w hSw; (try dsimp only at hSw); go_simp; (try with_reducible rfl)
  try simp only [Act.put, List.setIfInBounds_toArray, List.set_cons_zero, List.set_cons_succ]
  refine wpAnyH_ready (rs := [1, 4]) (by kernel_rfl) (by simp) (AllReadyH.cons (o := ⟨some 4, _, _, _, _, _⟩) rfl (fun Kc hKc => ?_) (AllReadyH.cons (o := ⟨some 7, _, _, _, _, _⟩) rfl (fun Kc hKc => ?_) AllReadyH.nil))
  ·
    go_simp
    refine hKc.out _ _ (hHeld) (fun hHeld => ?_)
    clear hKc Kc
    try simp only [Act.put, List.setIfInBounds_toArray, List.set_cons_zero, List.set_cons_succ]
    refine wpAnyH_ready (rs := [2, 4]) (by kernel_rfl) (by simp) (AllReadyH.cons (o := ⟨some 5, _, _, _, _, _⟩) rfl (fun Kc hKc => ?_) (AllReadyH.cons (o := ⟨some 7, _, _, _, _, _⟩) rfl (fun Kc hKc => ?_) AllReadyH.nil))
    ·
      go_simp
      go_at_call 40; refine (ccloneV Ao _ co x.opts W1 V rfl HO.out HLT.out ho).mono ?_; rintro e w2 ⟨A2, c2, rfl, hb2, hf2, y2⟩; have HB2 := Go.Lib.hid hb2; have c10' := (H1.out.keep y2 l1).cell 10 rfl; dsimp only
      refine hKc.out _ _ (hHeld.trans (y2.mono hHeld.size)) (fun hHeld => ?_)
      clear hKc Kc
      try simp only [Act.put, List.setIfInBounds_toArray, List.set_cons_zero, List.set_cons_succ]
      refine wpAnyH_ready (rs := [4]) (by kernel_rfl) (by simp) (AllReadyH.cons (o := ⟨some 7, _, _, _, _, _⟩) rfl (fun Kc hKc => ?_) AllReadyH.nil)
      go_simp
      refine hKc.out _ _ (hHeld) (fun hHeld => ?_)
      clear hKc Kc
      try simp only [Act.put, List.setIfInBounds_toArray, List.set_cons_zero, List.set_cons_succ]
      refine wpAnyH_take (i := 6) (oi := ⟨some 9, _, _, _, _, _⟩) (v := ?_) rfl (by kernel_rfl) (by kernel_rfl) (by kernel_rfl) (fun _ _ _ h => h) (Or.inl ⟨by rfl, ?_⟩) (by assumption) ?_
      rotate_left
      · intro w hSw; (try dsimp only at hSw); go_simp; (try with_reducible rfl)
      try simp only [Act.put, List.setIfInBounds_toArray, List.set_cons_zero, List.set_cons_succ]
      refine wpAnyH_ready (rs := [5]) (by kernel_rfl) (by simp) (AllReadyH.cons (o := ⟨some 8, _, _, _, _, _⟩) rfl (fun Kc hKc => ?_) AllReadyH.nil)
      go_simp
      go_at_call 40; refine (ccloneV Ab _ cb x.body w2 V rfl (HBo.out.keep (KeepV.of y2 HLT.out)) (fun b h => Nat.lt_of_lt_of_le (HLT.out b h) y2.size) hb).mono ?_; rintro e w3 ⟨A3, c3, rfl, hb3, hf3, y3⟩; have HB3 := Go.Lib.hid hb3; have K1 := Go.Lib.hid ((H1.out.keep y2 l1).keep y3 (Nat.lt_of_lt_of_le l1 y2.size)); have K2 := Go.Lib.hid ((H2.out.keep y2 l2).keep y3 (Nat.lt_of_lt_of_le l2 y2.size)); dsimp only
      refine hKc.out _ _ (hHeld.trans (y3.mono hHeld.size)) (fun hHeld => ?_)
      clear hKc Kc
      try simp only [Act.put, List.setIfInBounds_toArray, List.set_cons_zero, List.set_cons_succ]
      refine wpAnyH_ready (rs := [7]) (by kernel_rfl) (by simp) (AllReadyH.cons (o := ⟨none, _, _, _, _, _⟩) rfl (fun Kc hKc => ?_) AllReadyH.nil)
      rw [if_pos (by rfl)]
      refine step_store_any 23 _ _ rfl w.heap.size 9 25 _ [.slice A2 x.opts.length c2] _ rfl rfl rfl K1.out info_bs (by show 9 + 1 ≤ 11; omega) (by simp [Value.oneCell']) ?_; intro w4 hb4 ho4; have K4 := Go.Lib.hid hb4; clear hb4
      refine hKc.out _ _ (hHeld.trans (ho4.below (Nat.le_refl _))) (fun hHeld => ?_)
      clear hKc Kc
      try simp only [Act.put, List.setIfInBounds_toArray, List.set_cons_zero, List.set_cons_succ]
      refine wpAnyH_take (i := 8) (oi := ⟨some 10, _, _, _, _, _⟩) (v := ?_) rfl (by kernel_rfl) (by kernel_rfl) (by kernel_rfl) (fun _ _ _ h => h) (Or.inl ⟨by rfl, ?_⟩) (by assumption) ?_
      rotate_left
      · intro w hSw; (try dsimp only at hSw); go_simp; (try with_reducible rfl)
      try simp only [Act.put, List.setIfInBounds_toArray, List.set_cons_zero, List.set_cons_succ]
      refine wpAnyH_ready (rs := [9]) (by kernel_rfl) (by simp) (AllReadyH.cons (o := ⟨none, _, _, _, _, _⟩) rfl (fun Kc hKc => ?_) AllReadyH.nil)
      rw [if_pos (by rfl)]
      refine step_store_any 23 _ _ rfl w.heap.size 10 25 _ [.slice A3 x.body.length c3] _ rfl rfl rfl K4.out info_bs (by show 10 + 1 ≤ 11; omega) (by simp [Value.oneCell']) ?_; intro w5 hb5 ho5; have K5 : Hid (Bxo w5 w.heap.size 25 (pkL x A2 c2 A3 c3)) := Go.Lib.hid hb5; clear hb5
      refine hKc.out _ _ (hHeld.trans (ho5.below (Nat.le_refl _))) (fun hHeld => ?_)
      clear hKc Kc
      try simp only [Act.put, List.setIfInBounds_toArray, List.set_cons_zero, List.set_cons_succ]
      refine wpAnyH_done (by kernel_rfl) ?_ _
      have y5 := Go.Lib.hid hHeld
      have KZ := Go.Lib.hid ((K2.out.only ho4 (by omega)).only ho5 (by omega))
      have z2 := y2.size
      have z3 := y3.size
      have LT2 := Go.Lib.hid (fun b h => Nat.lt_of_lt_of_le (HLT.out b h) z2)
      have HO5 := Go.Lib.hid (((HB2.out.call y3 LT2.out).only ho4 (by omega) HN1.out).only ho5 (by omega) HN1.out)
      have HB5 := Go.Lib.hid (((HB3.out.wide z2).only ho4 (by omega) HN1.out).only ho5 (by omega) HN1.out)
      clear hHeld
      go_wp2_with (first
        | (refine wpList_load_box rfl 25 _ rfl w.heap.size rfl (pkL x A2 c2 A3 c3) _ K5.out Try.underlying25 rfl info_pk ?_)
        | (refine wpList_store_box rfl 25 _ _ rfl (w.heap.size + 1) 0 25 _ (pkL x A2 c2 A3 c3) rfl rfl KZ.out info_pk (by show 0 + 11 ≤ 11; omega) (pk_one _ _ _ _ _) ?_; intro w6 hb6 ho6; have K6 : Hid (Bxo w6 (w.heap.size + 1) 25 (pkL x A2 c2 A3 c3)) := Go.Lib.hid hb6; clear hb6))
      have y6 := y5.out.trans (ho6.below (show w.heap.size ≤ w.heap.size + 1 by omega))
      have d0 := K6.out.cell 0 rfl
      have d1 := K6.out.cell 1 rfl
      have d2 := K6.out.cell 2 rfl
      have d3 := K6.out.cell 3 rfl
      have d4 := K6.out.cell 4 rfl
      have d5 := K6.out.cell 5 rfl
      have d6 := K6.out.cell 6 rfl
      have d7 := K6.out.cell 7 rfl
      have d8 := K6.out.cell 8 rfl
      have d9 := K6.out.cell 9 rfl
      have d10 := K6.out.cell 10 rfl
      refine bodyPost_ret (v := ipV x A2 c2 A3 c3) ?_ rfl ⟨A2, c2, A3, c3, rfl, ⟨HS.out.1, HS.out.2.1, HS.out.2.2.1, HS.out.2.2.2, (HO5.out.only ho6 (by omega) HN2.out).wide (by omega), (HB5.out.only ho6 (by omega) HN2.out).wide (by omega), grow_lt HV.out y6.size⟩, y6⟩
      simp [results, Try.results29, go_sem, d0, d1, d2, d3, d4, d5, d6, d7, d8, d9, d10]
    ·
      go_simp
      refine hKc.out _ _ (hHeld) (fun hHeld => ?_)
      clear hKc Kc
      try simp only [Act.put, List.setIfInBounds_toArray, List.set_cons_zero, List.set_cons_succ]
      refine wpAnyH_ready (rs := [2]) (by kernel_rfl) (by simp) (AllReadyH.cons (o := ⟨some 5, _, _, _, _, _⟩) rfl (fun Kc hKc => ?_) AllReadyH.nil)
      go_simp
      go_at_call 40; refine (ccloneV Ao _ co x.opts W1 V rfl HO.out HLT.out ho).mono ?_; rintro e w2 ⟨A2, c2, rfl, hb2, hf2, y2⟩; have HB2 := Go.Lib.hid hb2; have c10' := (H1.out.keep y2 l1).cell 10 rfl; dsimp only
      refine hKc.out _ _ (hHeld.trans (y2.mono hHeld.size)) (fun hHeld => ?_)
      clear hKc Kc
      try simp only [Act.put, List.setIfInBounds_toArray, List.set_cons_zero, List.set_cons_succ]
      refine wpAnyH_take (i := 6) (oi := ⟨some 9, _, _, _, _, _⟩) (v := ?_) rfl (by kernel_rfl) (by kernel_rfl) (by kernel_rfl) (fun _ _ _ h => h) (Or.inl ⟨by rfl, ?_⟩) (by assumption) ?_
      rotate_left
      · intro w hSw; (try dsimp only at hSw); go_simp; (try with_reducible rfl)
      try simp only [Act.put, List.setIfInBounds_toArray, List.set_cons_zero, List.set_cons_succ]
      refine wpAnyH_ready (rs := [5]) (by kernel_rfl) (by simp) (AllReadyH.cons (o := ⟨some 8, _, _, _, _, _⟩) rfl (fun Kc hKc => ?_) AllReadyH.nil)
      go_simp
      go_at_call 40; refine (ccloneV Ab _ cb x.body w2 V rfl (HBo.out.keep (KeepV.of y2 HLT.out)) (fun b h => Nat.lt_of_lt_of_le (HLT.out b h) y2.size) hb).mono ?_; rintro e w3 ⟨A3, c3, rfl, hb3, hf3, y3⟩; have HB3 := Go.Lib.hid hb3; have K1 := Go.Lib.hid ((H1.out.keep y2 l1).keep y3 (Nat.lt_of_lt_of_le l1 y2.size)); have K2 := Go.Lib.hid ((H2.out.keep y2 l2).keep y3 (Nat.lt_of_lt_of_le l2 y2.size)); dsimp only
      refine hKc.out _ _ (hHeld.trans (y3.mono hHeld.size)) (fun hHeld => ?_)
      clear hKc Kc
      try simp only [Act.put, List.setIfInBounds_toArray, List.set_cons_zero, List.set_cons_succ]
      refine wpAnyH_ready (rs := [7]) (by kernel_rfl) (by simp) (AllReadyH.cons (o := ⟨none, _, _, _, _, _⟩) rfl (fun Kc hKc => ?_) AllReadyH.nil)
      rw [if_pos (by rfl)]
      refine step_store_any 23 _ _ rfl w.heap.size 9 25 _ [.slice A2 x.opts.length c2] _ rfl rfl rfl K1.out info_bs (by show 9 + 1 ≤ 11; omega) (by simp [Value.oneCell']) ?_; intro w4 hb4 ho4; have K4 := Go.Lib.hid hb4; clear hb4
      refine hKc.out _ _ (hHeld.trans (ho4.below (Nat.le_refl _))) (fun hHeld => ?_)
      clear hKc Kc
      try simp only [Act.put, List.setIfInBounds_toArray, List.set_cons_zero, List.set_cons_succ]
      refine wpAnyH_take (i := 8) (oi := ⟨some 10, _, _, _, _, _⟩) (v := ?_) rfl (by kernel_rfl) (by kernel_rfl) (by kernel_rfl) (fun _ _ _ h => h) (Or.inl ⟨by rfl, ?_⟩) (by assumption) ?_
      rotate_left
      · intro w hSw; (try dsimp only at hSw); go_simp; (try with_reducible rfl)
      try simp only [Act.put, List.setIfInBounds_toArray, List.set_cons_zero, List.set_cons_succ]
      refine wpAnyH_ready (rs := [9]) (by kernel_rfl) (by simp) (AllReadyH.cons (o := ⟨none, _, _, _, _, _⟩) rfl (fun Kc hKc => ?_) AllReadyH.nil)
      rw [if_pos (by rfl)]
      refine step_store_any 23 _ _ rfl w.heap.size 10 25 _ [.slice A3 x.body.length c3] _ rfl rfl rfl K4.out info_bs (by show 10 + 1 ≤ 11; omega) (by simp [Value.oneCell']) ?_; intro w5 hb5 ho5; have K5 : Hid (Bxo w5 w.heap.size 25 (pkL x A2 c2 A3 c3)) := Go.Lib.hid hb5; clear hb5
      refine hKc.out _ _ (hHeld.trans (ho5.below (Nat.le_refl _))) (fun hHeld => ?_)
      clear hKc Kc
      try simp only [Act.put, List.setIfInBounds_toArray, List.set_cons_zero, List.set_cons_succ]
      refine wpAnyH_done (by kernel_rfl) ?_ _
      have y5 := Go.Lib.hid hHeld
      have KZ := Go.Lib.hid ((K2.out.only ho4 (by omega)).only ho5 (by omega))
      have z2 := y2.size
      have z3 := y3.size
      have LT2 := Go.Lib.hid (fun b h => Nat.lt_of_lt_of_le (HLT.out b h) z2)
      have HO5 := Go.Lib.hid (((HB2.out.call y3 LT2.out).only ho4 (by omega) HN1.out).only ho5 (by omega) HN1.out)
      have HB5 := Go.Lib.hid (((HB3.out.wide z2).only ho4 (by omega) HN1.out).only ho5 (by omega) HN1.out)
      clear hHeld
      go_wp2_with (first
        | (refine wpList_load_box rfl 25 _ rfl w.heap.size rfl (pkL x A2 c2 A3 c3) _ K5.out Try.underlying25 rfl info_pk ?_)
        | (refine wpList_store_box rfl 25 _ _ rfl (w.heap.size + 1) 0 25 _ (pkL x A2 c2 A3 c3) rfl rfl KZ.out info_pk (by show 0 + 11 ≤ 11; omega) (pk_one _ _ _ _ _) ?_; intro w6 hb6 ho6; have K6 : Hid (Bxo w6 (w.heap.size + 1) 25 (pkL x A2 c2 A3 c3)) := Go.Lib.hid hb6; clear hb6))
      have y6 := y5.out.trans (ho6.below (show w.heap.size ≤ w.heap.size + 1 by omega))
      have d0 := K6.out.cell 0 rfl
      have d1 := K6.out.cell 1 rfl
      have d2 := K6.out.cell 2 rfl
      have d3 := K6.out.cell 3 rfl
      have d4 := K6.out.cell 4 rfl
      have d5 := K6.out.cell 5 rfl
      have d6 := K6.out.cell 6 rfl
      have d7 := K6.out.cell 7 rfl
      have d8 := K6.out.cell 8 rfl
      have d9 := K6.out.cell 9 rfl
      have d10 := K6.out.cell 10 rfl
      refine bodyPost_ret (v := ipV x A2 c2 A3 c3) ?_ rfl ⟨A2, c2, A3, c3, rfl, ⟨HS.out.1, HS.out.2.1, HS.out.2.2.1, HS.out.2.2.2, (HO5.out.only ho6 (by omega) HN2.out).wide (by omega), (HB5.out.only ho6 (by omega) HN2.out).wide (by omega), grow_lt HV.out y6.size⟩, y6⟩
      simp [results, Try.results29, go_sem, d0, d1, d2, d3, d4, d5, d6, d7, d8, d9, d10]
  ·
    go_simp
    refine hKc.out _ _ (hHeld) (fun hHeld => ?_)
    clear hKc Kc
    try simp only [Act.put, List.setIfInBounds_toArray, List.set_cons_zero, List.set_cons_succ]
    refine wpAnyH_ready (rs := [1]) (by kernel_rfl) (by simp) (AllReadyH.cons (o := ⟨some 4, _, _, _, _, _⟩) rfl (fun Kc hKc => ?_) AllReadyH.nil)
    go_simp
    refine hKc.out _ _ (hHeld) (fun hHeld => ?_)
    clear hKc Kc
    try simp only [Act.put, List.setIfInBounds_toArray, List.set_cons_zero, List.set_cons_succ]
    refine wpAnyH_ready (rs := [2]) (by kernel_rfl) (by simp) (AllReadyH.cons (o := ⟨some 5, _, _, _, _, _⟩) rfl (fun Kc hKc => ?_) AllReadyH.nil)
    go_simp
    go_at_call 40; refine (ccloneV Ao _ co x.opts W1 V rfl HO.out HLT.out ho).mono ?_; rintro e w2 ⟨A2, c2, rfl, hb2, hf2, y2⟩; have HB2 := Go.Lib.hid hb2; have c10' := (H1.out.keep y2 l1).cell 10 rfl; dsimp only
    refine hKc.out _ _ (hHeld.trans (y2.mono hHeld.size)) (fun hHeld => ?_)
    clear hKc Kc
    try simp only [Act.put, List.setIfInBounds_toArray, List.set_cons_zero, List.set_cons_succ]
    refine wpAnyH_take (i := 6) (oi := ⟨some 9, _, _, _, _, _⟩) (v := ?_) rfl (by kernel_rfl) (by kernel_rfl) (by kernel_rfl) (fun _ _ _ h => h) (Or.inl ⟨by rfl, ?_⟩) (by assumption) ?_
    rotate_left
    · intro w hSw; (try dsimp only at hSw); go_simp; (try with_reducible rfl)
    try simp only [Act.put, List.setIfInBounds_toArray, List.set_cons_zero, List.set_cons_succ]
    refine wpAnyH_ready (rs := [5]) (by kernel_rfl) (by simp) (AllReadyH.cons (o := ⟨some 8, _, _, _, _, _⟩) rfl (fun Kc hKc => ?_) AllReadyH.nil)
    go_simp
    go_at_call 40; refine (ccloneV Ab _ cb x.body w2 V rfl (HBo.out.keep (KeepV.of y2 HLT.out)) (fun b h => Nat.lt_of_lt_of_le (HLT.out b h) y2.size) hb).mono ?_; rintro e w3 ⟨A3, c3, rfl, hb3, hf3, y3⟩; have HB3 := Go.Lib.hid hb3; have K1 := Go.Lib.hid ((H1.out.keep y2 l1).keep y3 (Nat.lt_of_lt_of_le l1 y2.size)); have K2 := Go.Lib.hid ((H2.out.keep y2 l2).keep y3 (Nat.lt_of_lt_of_le l2 y2.size)); dsimp only
    refine hKc.out _ _ (hHeld.trans (y3.mono hHeld.size)) (fun hHeld => ?_)
    clear hKc Kc
    try simp only [Act.put, List.setIfInBounds_toArray, List.set_cons_zero, List.set_cons_succ]
    refine wpAnyH_ready (rs := [7]) (by kernel_rfl) (by simp) (AllReadyH.cons (o := ⟨none, _, _, _, _, _⟩) rfl (fun Kc hKc => ?_) AllReadyH.nil)
    rw [if_pos (by rfl)]
    refine step_store_any 23 _ _ rfl w.heap.size 9 25 _ [.slice A2 x.opts.length c2] _ rfl rfl rfl K1.out info_bs (by show 9 + 1 ≤ 11; omega) (by simp [Value.oneCell']) ?_; intro w4 hb4 ho4; have K4 := Go.Lib.hid hb4; clear hb4
    refine hKc.out _ _ (hHeld.trans (ho4.below (Nat.le_refl _))) (fun hHeld => ?_)
    clear hKc Kc
    try simp only [Act.put, List.setIfInBounds_toArray, List.set_cons_zero, List.set_cons_succ]
    refine wpAnyH_take (i := 8) (oi := ⟨some 10, _, _, _, _, _⟩) (v := ?_) rfl (by kernel_rfl) (by kernel_rfl) (by kernel_rfl) (fun _ _ _ h => h) (Or.inl ⟨by rfl, ?_⟩) (by assumption) ?_
    rotate_left
    · intro w hSw; (try dsimp only at hSw); go_simp; (try with_reducible rfl)
    try simp only [Act.put, List.setIfInBounds_toArray, List.set_cons_zero, List.set_cons_succ]
    refine wpAnyH_ready (rs := [9]) (by kernel_rfl) (by simp) (AllReadyH.cons (o := ⟨none, _, _, _, _, _⟩) rfl (fun Kc hKc => ?_) AllReadyH.nil)
    rw [if_pos (by rfl)]
    refine step_store_any 23 _ _ rfl w.heap.size 10 25 _ [.slice A3 x.body.length c3] _ rfl rfl rfl K4.out info_bs (by show 10 + 1 ≤ 11; omega) (by simp [Value.oneCell']) ?_; intro w5 hb5 ho5; have K5 : Hid (Bxo w5 w.heap.size 25 (pkL x A2 c2 A3 c3)) := Go.Lib.hid hb5; clear hb5
    refine hKc.out _ _ (hHeld.trans (ho5.below (Nat.le_refl _))) (fun hHeld => ?_)
    clear hKc Kc
    try simp only [Act.put, List.setIfInBounds_toArray, List.set_cons_zero, List.set_cons_succ]
    refine wpAnyH_done (by kernel_rfl) ?_ _
    have y5 := Go.Lib.hid hHeld
    have KZ := Go.Lib.hid ((K2.out.only ho4 (by omega)).only ho5 (by omega))
    have z2 := y2.size
    have z3 := y3.size
    have LT2 := Go.Lib.hid (fun b h => Nat.lt_of_lt_of_le (HLT.out b h) z2)
    have HO5 := Go.Lib.hid (((HB2.out.call y3 LT2.out).only ho4 (by omega) HN1.out).only ho5 (by omega) HN1.out)
    have HB5 := Go.Lib.hid (((HB3.out.wide z2).only ho4 (by omega) HN1.out).only ho5 (by omega) HN1.out)
    clear hHeld
    go_wp2_with (first
      | (refine wpList_load_box rfl 25 _ rfl w.heap.size rfl (pkL x A2 c2 A3 c3) _ K5.out Try.underlying25 rfl info_pk ?_)
      | (refine wpList_store_box rfl 25 _ _ rfl (w.heap.size + 1) 0 25 _ (pkL x A2 c2 A3 c3) rfl rfl KZ.out info_pk (by show 0 + 11 ≤ 11; omega) (pk_one _ _ _ _ _) ?_; intro w6 hb6 ho6; have K6 : Hid (Bxo w6 (w.heap.size + 1) 25 (pkL x A2 c2 A3 c3)) := Go.Lib.hid hb6; clear hb6))
    have y6 := y5.out.trans (ho6.below (show w.heap.size ≤ w.heap.size + 1 by omega))
    have d0 := K6.out.cell 0 rfl
    have d1 := K6.out.cell 1 rfl
    have d2 := K6.out.cell 2 rfl
    have d3 := K6.out.cell 3 rfl
    have d4 := K6.out.cell 4 rfl
    have d5 := K6.out.cell 5 rfl
    have d6 := K6.out.cell 6 rfl
    have d7 := K6.out.cell 7 rfl
    have d8 := K6.out.cell 8 rfl
    have d9 := K6.out.cell 9 rfl
    have d10 := K6.out.cell 10 rfl
    refine bodyPost_ret (v := ipV x A2 c2 A3 c3) ?_ rfl ⟨A2, c2, A3, c3, rfl, ⟨HS.out.1, HS.out.2.1, HS.out.2.2.1, HS.out.2.2.2, (HO5.out.only ho6 (by omega) HN2.out).wide (by omega), (HB5.out.only ho6 (by omega) HN2.out).wide (by omega), grow_lt HV.out y6.size⟩, y6⟩
    simp [results, Try.results29, go_sem, d0, d1, d2, d3, d4, d5, d6, d7, d8, d9, d10]
end Go.Proofs.Ytmblkgnjcmneeaa

/- What copyPool goes through: one packet after another becomes the call's own. -/
namespace Go.Proofs.Ytmblkgnjcmneeaa
open Go.ChangeShapes Go.WideShapes Go.ChangeAt Go.RowKit
set_option linter.unusedVariables false
set_option linter.unusedSimpArgs false

/-- where the parts of what came in lie. -/
theorem fs_els {w : World} {V : Nat → Prop} {ad : Addr} : ∀ (bs : List Bf) (k : Nat), (∀ (j : Nat) (b : Bf), bs[j]? = some b → ∃ Ao co Ab cb Ar cr, BfCells w V ad ((k + j) * 19) b Ao co Ab cb Ar cr) →
    ∃ es : List El, es.map El.b = bs ∧ ∀ (j : Nat) (e : El), es[j]? = some e → BfCells w V ad ((k + j) * 19) e.b e.Ao e.co e.Ab e.cb e.Ar e.cr
  | [], k, _ => ⟨[], rfl, fun j e h => by simp at h⟩
  | b :: t, k, h => by
    obtain ⟨Ao, co, Ab, cb, Ar, cr, h0⟩ := h 0 b rfl
    obtain ⟨es, h1, h2⟩ := fs_els t (k + 1) (fun j b' hj => by
      obtain ⟨Ao, co, Ab, cb, Ar, cr, h3⟩ := h (j + 1) b' (by simpa using hj)
      rw [show k + (j + 1) = k + 1 + j by omega] at h3
      exact ⟨_, _, _, _, _, _, h3⟩)
    refine ⟨⟨b, Ao, co, Ab, cb, Ar, cr⟩ :: es, by simp [h1], fun j e hj => ?_⟩
    cases j with
    | zero => simp at hj; subst hj; exact h0
    | succ j =>
      have := h2 j e (by simpa using hj)
      rwa [show k + 1 + j = k + (j + 1) by omega] at this
theorem rs_els {w : World} {V : Nat → Prop} {ad : Addr} : ∀ (rs : List Rn) (k : Nat), (∀ (j : Nat) (r : Rn), rs[j]? = some r → w.cell? (ad.add ((k + j) * 2)) = some (.int .i64 r.off) ∧ ∃ Ad cd, w.cell? (ad.add ((k + j) * 2 + 1)) = some (.slice Ad r.data.length cd) ∧ ByIn w V Ad cd r.data) →
    ∃ es : List Er, es.map Er.r = rs ∧ ∀ (j : Nat) (e : Er), es[j]? = some e → (w.cell? (ad.add ((k + j) * 2)) = some (.int .i64 e.r.off) ∧ w.cell? (ad.add ((k + j) * 2 + 1)) = some (.slice e.A e.r.data.length e.c)) ∧ ByIn w V e.A e.c e.r.data
  | [], k, _ => ⟨[], rfl, fun j e h => by simp at h⟩
  | r :: t, k, h => by
    obtain ⟨h0, Ad, cd, h1, h2⟩ := h 0 r rfl
    obtain ⟨es, h3, h4⟩ := rs_els t (k + 1) (fun j b' hj => by
      have h5 := h (j + 1) b' (by simpa using hj)
      rwa [show k + (j + 1) = k + 1 + j by omega] at h5)
    refine ⟨⟨r, Ad, cd⟩ :: es, by simp [h3], fun j e hj => ?_⟩
    cases j with
    | zero => simp at hj; subst hj; exact ⟨⟨h0, h1⟩, h2⟩
    | succ j =>
      have := h4 j e (by simpa using hj)
      rwa [show k + 1 + j = k + (j + 1) by omega] at this
theorem rdC_flat {α : Type} (L : α → List Value) (k : Nat) (hk : 0 < k) (hL : ∀ x, (L x).length = k) {w : World} {ad : Addr} {es : List α} (h : ∀ j e, es[j]? = some e → ∀ i v, (L e)[i]? = some v → w.cell? (ad.add (j * k + i)) = some v) : ∀ (t : Nat) (u : Value), (es.flatMap L)[t]? = some u → w.cell? (ad.add t) = some u := fun t u ht => by
  have hl := (List.getElem?_eq_some_iff.1 ht).1
  rw [flat_len L k hL] at hl
  have hj : t / k < es.length := (Nat.div_lt_iff_lt_mul hk).2 hl
  have hi : t % k < k := Nat.mod_lt _ hk
  have e : t / k * k + t % k = t := Nat.div_add_mod' t k
  rw [← e, flat_get L k hL es _ _ hj hi] at ht
  rw [← e]
  exact h _ _ (List.getElem?_eq_getElem hj) _ _ ht
theorem Fs.els {w : World} {V : Nat → Prop} {A : Option Addr} {bs : List Bf} (h : Fs w V A bs) (lt : ∀ b, V b → b < w.heap.size) : ∃ es : List El, es.map El.b = bs ∧ RdC w A (es.flatMap El.L) ∧ ∀ e ∈ es, BfAt w V e.b e.Ao e.co e.Ab e.cb e.Ar e.cr := by
  rcases h with h | ⟨ad, rfl, hv, hc⟩
  · exact ⟨[], by rw [h]; rfl, .inl rfl, fun e he => by cases he⟩
  · obtain ⟨es, h1, h2⟩ := fs_els bs 0 (fun j b hj => by rw [Nat.zero_add]; exact hc j b hj)
    refine ⟨es, h1, .inr ⟨ad, rfl, rdC_flat El.L 19 (by omega) El.len (fun j e he i v hv => ?_)⟩, fun e he => ?_⟩
    · have := (h2 j e he).all i v hv
      rwa [add_add, Nat.zero_add] at this
    · obtain ⟨j, hj, rfl⟩ := List.getElem_of_mem he
      exact (h2 j _ (List.getElem?_eq_getElem hj)).bf lt
theorem Rs.els {w : World} {V : Nat → Prop} {A : Option Addr} {rs : List Rn} (h : Rs w V A rs) : ∃ es : List Er, es.map Er.r = rs ∧ RdC w A (es.flatMap Er.L) ∧ ∀ e ∈ es, ByIn w V e.A e.c e.r.data := by
  rcases h with h | ⟨ad, rfl, hv, hc⟩
  · exact ⟨[], by rw [h]; rfl, .inl rfl, fun e he => by cases he⟩
  · obtain ⟨es, h1, h2⟩ := rs_els rs 0 (fun j b hj => by rw [Nat.zero_add]; exact hc j b hj)
    refine ⟨es, h1, .inr ⟨ad, rfl, rdC_flat Er.L 2 (by omega) Er.len (fun j e he i v hv => ?_)⟩, fun e he => ?_⟩
    · obtain ⟨⟨a, b⟩, _⟩ := h2 j e he
      rw [Nat.zero_add] at a b
      match i, hv with
      | 0, hv => cases hv; exact a
      | 1, hv => cases hv; exact b
      | n + 2, hv => simp [Er.L] at hv
    · obtain ⟨j, hj, rfl⟩ := List.getElem_of_mem he
      exact (h2 j _ (List.getElem?_eq_getElem hj)).2
theorem el_one (es : List El) : ∀ u ∈ es.flatMap El.L, u.oneCell' = true := fun u hu => by
  obtain ⟨e, _, he⟩ := List.mem_flatMap.1 hu
  simp only [El.L, List.mem_cons, List.not_mem_nil, or_false] at he
  rcases he with rfl | rfl | rfl | rfl | rfl | rfl | rfl | rfl | rfl | rfl | rfl | rfl | rfl | rfl | rfl | rfl | rfl | rfl | rfl <;> rfl
theorem er_one (es : List Er) : ∀ u ∈ es.flatMap Er.L, u.oneCell' = true := fun u hu => by
  obtain ⟨e, _, he⟩ := List.mem_flatMap.1 hu
  simp only [Er.L, List.mem_cons, List.not_mem_nil, or_false] at he
  rcases he with rfl | rfl <;> rfl
/-- ahead of packet k. W: the world behind the boxes of the pool (gp) and of the answer (gp + 1). -/
structure CpI (w : World) (V : Nat → Prop) (p : Po) (A : Option Addr) (c : Nat) (wr : World) (k : Nat) (es : List El) (D : Nat → Prop) : Prop where
  below : Below w.heap.size w wr
  box : Bxo wr w.heap.size 42 [.int .i64 p.room, .int .i64 p.life, .int .i64 p.now, .slice A p.list.length c]
  zbox : Bxo wr (w.heap.size + 1) 42 (poL po0 none 0)
  map : es.map El.b = p.list
  row : OwnB wr (w.heap.size + 2) A c es
  done : ∀ j e, j < k → es[j]? = some e → ∃ rs, ElAt wr (w.heap.size + 2) D e rs
  raw : ∀ j e, k ≤ j → es[j]? = some e → BfAt wr V e.b e.Ao e.co e.Ab e.cb e.Ar e.cr
  dl : ∀ g, blk A = some g → ¬ D g
  de : ∀ j e, j < k → es[j]? = some e → ∀ g, blk e.Ar = some g → ¬ D g ∧ blk A ≠ some g
  dis : ∀ i j e f, i < j → j < k → es[i]? = some e → es[j]? = some f → ∀ g, blk e.Ar = some g → blk f.Ar ≠ some g
  dg : ∀ b, D b → V b ∨ (w.heap.size + 2 ≤ b ∧ b < wr.heap.size)
  sub : ∀ b, V b → D b
theorem CpI.lt {w wr : World} {V D : Nat → Prop} {p : Po} {A : Option Addr} {c k : Nat} {es : List El} (h : CpI w V p A c wr k es D) (lt : ∀ b, V b → b < w.heap.size) : ∀ b, D b → b < wr.heap.size := fun b hb => by
  rcases h.dg b hb with hb | hb
  · exact Nat.lt_of_lt_of_le (lt b hb) h.below.size
  · exact hb.2
/-- one packet more. gL: the row's block; gR: the block of the packet's runs. -/
theorem CpI.step {w wr w' : World} {V D D' : Nat → Prop} {p : Po} {c k gL gR : Nat} {es : List El} {e : El} {rs : List Er} (lt : ∀ b, V b → b < w.heap.size)
    (h : CpI w V p (some ⟨gL, 0, none⟩) c wr k es D) (hk : k < es.length) (hb : e.b = es[k].b) (hA : e.Ar = some ⟨gR, 0, none⟩) (hR : wr.heap.size ≤ gR) (hs : wr.heap.size ≤ w'.heap.size) (ho : w'.os = wr.os) (ht : w'.tape = wr.tape) (hu : w'.output = wr.output)
    (hold : ∀ b, b < wr.heap.size → b ≠ gL → w'.heap[b]? = wr.heap[b]?) (hrow : OwnB w' (w.heap.size + 2) (some ⟨gL, 0, none⟩) c (es.set k e)) (hel : ElAt w' (w.heap.size + 2) D' e rs)
    (hD : ∀ b, D b → D' b) (hD' : ∀ b, D' b → D b ∨ (wr.heap.size ≤ b ∧ b < w'.heap.size ∧ b ≠ gR)) : CpI w V p (some ⟨gL, 0, none⟩) c w' (k + 1) (es.set k e) D' := by
  have hL := (own_addr h.row).resolve_left (by rintro ⟨h, _⟩; cases h)
  obtain ⟨gL', e1, hL1, hL2⟩ := hL
  injection e1 with e1
  injection e1 with e1
  subst e1
  have b0 := h.below.size
  have hDw : ∀ b, D b → w'.heap[b]? = wr.heap[b]? := fun b hb => hold b (h.lt lt b hb) (fun e => h.dl gL rfl (e ▸ hb))
  have hDne : ∀ b, D' b → b ≠ gL := fun b hb e => by
    rcases hD' b hb with h1 | h1
    · exact h.dl gL rfl (e ▸ h1)
    · omega
  have hget : ∀ j f, (es.set k e)[j]? = some f → (j = k ∧ f = e) ∨ (j ≠ k ∧ es[j]? = some f) := fun j f hj => by
    rw [List.getElem?_set] at hj
    split at hj
    · rename_i hjk
      first
        | (injection hj with hj; exact .inl ⟨hjk.symm, hj.symm⟩)
        | (split at hj
           · injection hj with hj; exact .inl ⟨hjk.symm, hj.symm⟩
           · cases hj)
    · rename_i hjk; exact .inr ⟨fun e => hjk e.symm, hj⟩
  have hrunlt : ∀ j f, j < k → es[j]? = some f → ∀ g, blk f.Ar = some g → g < wr.heap.size ∧ g ≠ gL := fun j f hj hf g hg => by
    obtain ⟨rs', hr⟩ := h.done j f hj hf
    have hdl := (h.de j f hj hf g hg).2
    rcases own_addr hr.row with ⟨hn, _⟩ | ⟨g2, hg2, _, h3⟩
    · rw [hn] at hg; cases hg
    · rw [hg2] at hg; injection hg with hg; subst hg; exact ⟨h3, fun e => hdl (by rw [e]; rfl)⟩
  refine ⟨⟨ho.trans h.below.os, ht.trans h.below.tape, hu.trans h.below.output, Nat.le_trans b0 hs, fun j hj => (hold j (by omega) (by omega)).trans (h.below.block j hj)⟩,
    (hold _ (by have := h.box.lt; omega) (by omega)).trans h.box, (hold _ (by have := h.zbox.lt; omega) (by omega)).trans h.zbox, ?_, hrow, ?_, ?_, ?_, ?_, ?_, ?_, fun b hb => hD b (h.sub b hb)⟩
  · rw [List.map_set, hb, ← h.map, ← List.getElem_map El.b (h := by simpa using hk), List.set_getElem_self]
  · intro j f hj hf
    rcases hget j f hf with ⟨rfl, rfl⟩ | ⟨hne, hf'⟩
    · exact ⟨rs, hel⟩
    · obtain ⟨rs', hr⟩ := h.done j f (by omega) hf'
      exact ⟨rs', (hr.keep hDw (fun g hg => hold g (hrunlt j f (by omega) hf' g hg).1 (hrunlt j f (by omega) hf' g hg).2)).more hD (Nat.le_refl _)⟩
  · intro j f hj hf
    rcases hget j f hf with ⟨rfl, rfl⟩ | ⟨hne, hf'⟩
    · omega
    · have hr := h.raw j f (by omega) hf'
      have hV : ∀ b, V b → w'.heap[b]? = wr.heap[b]? := fun b hb => hDw b (h.sub b hb)
      have k1 : KeepV V wr w' := fun q hq => World.cell?_of_block (hV _ hq)
      exact ⟨hr.s0, hr.s1, hr.d0, hr.d1, hr.hs0, hr.hs1, hr.hd0, hr.hd1, hr.o.keep k1, hr.bo.keep k1, hr.rlen, hr.rcap, hr.rnil, hr.runs.keep k1, fun b hb => Nat.lt_of_lt_of_le (hr.lt b hb) hs⟩
  · intro g hg hd
    injection hg with hg
    exact hDne g hd hg.symm
  · intro j f hj hf g hg
    rcases hget j f hf with ⟨rfl, rfl⟩ | ⟨hne, hf'⟩
    · rw [hA] at hg
      injection hg with hg
      have hg : gR = g := hg
      subst hg
      refine ⟨fun hd => ?_, fun e => ?_⟩
      · rcases hD' _ hd with h1 | h1
        · have := h.lt lt _ h1; omega
        · exact h1.2.2 rfl
      · injection e with e
        have e : gL = gR := e
        omega
    · obtain ⟨h1, h2⟩ := h.de j f (by omega) hf' g hg
      have h3 := hrunlt j f (by omega) hf' g hg
      refine ⟨fun hd => ?_, h2⟩
      rcases hD' _ hd with h4 | h4
      · exact h1 h4
      · omega
  · intro i j f f' hij hj hf hf' g hg hg'
    rcases hget i f hf with ⟨rfl, rfl⟩ | ⟨hne, hfi⟩
    · omega
    · rcases hget j f' hf' with ⟨rfl, rfl⟩ | ⟨hne', hfj⟩
      · rw [hA] at hg'
        injection hg' with hg'
        have hg' : gR = g := hg'
        have := (hrunlt i f (by omega) hfi g hg).1
        omega
      · exact h.dis i j f f' hij (by omega) hfi hfj g hg hg'
  · intro b hb
    rcases hD' b hb with h1 | h1
    · rcases h.dg b h1 with h2 | h2
      · exact .inl h2
      · exact .inr ⟨h2.1, Nat.lt_of_lt_of_le h2.2 hs⟩
    · exact .inr ⟨by omega, h1.2.1⟩
/-- at the end it is the call's own. -/
theorem CpI.own {w wr : World} {V D : Nat → Prop} {p : Po} {A : Option Addr} {c : Nat} {es : List El} (lt : ∀ b, V b → b < w.heap.size) (h : CpI w V p A c wr es.length es D) : OwnPo wr (w.heap.size + 2) D A c es := by
  refine ⟨h.row, fun e he => ?_, h.dl, fun e he => ?_, ?_, h.lt lt⟩
  · obtain ⟨j, hj, rfl⟩ := List.getElem_of_mem he
    exact h.done j _ hj (List.getElem?_eq_getElem hj)
  · obtain ⟨j, hj, rfl⟩ := List.getElem_of_mem he
    exact h.de j _ hj (List.getElem?_eq_getElem hj)
  · rw [List.pairwise_iff_getElem]
    intro i j hi hj hij
    exact h.dis i j _ _ hij hj (List.getElem?_eq_getElem hi) (List.getElem?_eq_getElem hj)
theorem OwnPo.base {w : World} {base base' : Nat} {D : Nat → Prop} {A : Option Addr} {c : Nat} {es : List El} (h : OwnPo w base D A c es) (hb : base' ≤ base) : OwnPo w base' D A c es :=
  ⟨own_base h.row hb, fun e he => by obtain ⟨rs, hr⟩ := h.els e he; exact ⟨rs, hr.more (fun _ h => h) hb⟩, h.dl, h.de, h.dis, h.lt⟩
theorem OwnPo.keepH {w w' : World} {base : Nat} {D : Nat → Prop} {A : Option Addr} {c : Nat} {es : List El} (h : OwnPo w base D A c es) (hs : w.heap.size ≤ w'.heap.size) (hD : ∀ b, D b → w'.heap[b]? = w.heap[b]?) (hB : ∀ b, base ≤ b → b < w.heap.size → w'.heap[b]? = w.heap[b]?) : OwnPo w' base D A c es := by
  have hA : ∀ {e : TypeId} {size n c : Nat} {A : Option Addr} {xs : List Value}, w.ownsRow base e size (.slice A n c) n xs → ∀ g, blk A = some g → w'.heap[g]? = w.heap[g]? := fun h g hg => by
    rcases own_addr h with ⟨hn, _⟩ | ⟨g2, hg2, h1, h2⟩
    · rw [hn] at hg; cases hg
    · rw [hg2] at hg; injection hg with hg; have hg : g2 = g := hg; subst hg; exact hB _ h1 h2
  refine ⟨own_keepA h.row (hA h.row), fun e he => ?_, h.dl, h.de, h.dis, fun b hb => Nat.lt_of_lt_of_le (h.lt b hb) hs⟩
  obtain ⟨rs, hr⟩ := h.els e he
  exact ⟨rs, hr.keep hD (hA hr.row)⟩
end Go.Proofs.Ytmblkgnjcmneeaa

/- The contracts of slices.Delete at packets that are put together, and of package reasm's without. -/
namespace Go.Proofs.Ytmblkgnjcmneeaa
open Go.ChangeShapes Go.WideShapes Go.ChangeAt Go.RowKit
set_option linter.unusedVariables false
set_option linter.unusedSimpArgs false

/-- what nothing holds, cell by cell. -/
abbrev zBf : List Value := [.int .u32 0, .int .u32 0, .int .i64 0, .int .i64 0, .int .i64 0, .int .i64 0, .int .i64 0, .bool false, .bool false, .int .i64 0, .int .i64 0, .int .i64 0, .int .u32 0, .int .u32 0, .slice none 0 0, .slice none 0 0, .bool false, .int .i64 0, .slice none 0 0]
theorem zero_bf : ∀ w, (zeroValue 67).run Try.prog w = .ok (.agg zBf.toArray) w := by
  obtain ⟨i0, hi, hz0, hz1, hz2⟩ := info_parts info_buf
  intro w
  simp [zeroValue, typeInfo, hi, hz0]
set_option maxRecDepth 100000 in
set_option maxHeartbeats 4000000 in
theorem cdelete (gL c k : Nat) (es : List El) (base : Nat) (w : World) (hE : OwnB w base (some ⟨gL, 0, none⟩) c es) (hk : k < es.length) (hn : es.length ≤ 16777216) :
    Calls Try.prog 57 #[.slice (some ⟨gL, 0, none⟩) es.length c, .int .i64 k, .int .i64 ((k : Int) + 1)] w fun e w' => e = .returned (.slice (some ⟨gL, 0, none⟩) (es.length - 1) c) ∧ OwnB w' base (some ⟨gL, 0, none⟩) c (es.eraseIdx k) ∧ Only gL w w' := by
  obtain ⟨i0, hi, hz0, hz1, hz2⟩ := info_parts info_buf
  obtain ⟨cur, hcur, hcl, hct, hc1, hc2, hc3, hc4⟩ := own_open hE
  have HE := Go.Lib.hid hE
  have HCUR : Hid (Bxo w.drew gL 67 cur) := Go.Lib.hid hcur
  have HCT := Go.Lib.hid hct
  have HCL := Go.Lib.hid hcl
  have HN4 := Go.Lib.hid hc4
  unfold maxLen at hc3
  have HNL : Hid (((es.drop (k + 1)).flatMap El.L).length = (es.length - (k + 1)) * 19) := Go.Lib.hid (by rw [flat_len El.L 19 El.len, List.length_drop])
  obtain ⟨ad, had, hnw⟩ : ∃ ad : Addr, (if c = k + 1 then some (⟨gL, 0, none⟩ : Addr) else some ⟨gL, (k + 1) * 19, none⟩) = some ad ∧ ∀ j u, ((es.drop (k + 1)).flatMap El.L)[j]? = some u → w.drew.cell? (ad.add j) = some u := by
    by_cases hc : c = k + 1
    · refine ⟨⟨gL, 0, none⟩, if_pos hc, fun j u hj => ?_⟩
      have hl := (List.getElem?_eq_some_iff.1 hj).1
      rw [HNL.out] at hl
      omega
    · refine ⟨⟨gL, (k + 1) * 19, none⟩, if_neg hc, fun j u hj => ?_⟩
      have hl := (List.getElem?_eq_some_iff.1 hj).1
      rw [HNL.out] at hl
      rw [← flat_drop El.L 19 El.len, List.getElem?_drop] at hj
      rw [Addr.add_mid]
      exact (own_cells HE.out ((k + 1) * 19 + j) (by omega)).trans hj
  have HNW := Go.Lib.hid hnw
  clear hnw
  have HFIT : Hid (k * 19 + ((es.drop (k + 1)).flatMap El.L).length ≤ cur.length) := Go.Lib.hid (by rw [HNL.out, hcl]; omega)
  have HFIN : Hid (∀ vs w', vs.length = 1 * 19 → Bxo w' gL 67 (spl (spl cur (k * 19) ((es.drop (k + 1)).flatMap El.L)) ((es.length - 1) * 19) vs) → OwnB w' base (some ⟨gL, 0, none⟩) c (es.eraseIdx k)) := Go.Lib.hid (fun vs w' hv hb => by
    have hnl := HNL.out
    have hel : (es.eraseIdx k).length = es.length - 1 := by rw [List.length_eraseIdx, if_pos hk]
    unfold OwnB
    rw [hel]
    have hs1 : (spl cur (k * 19) ((es.drop (k + 1)).flatMap El.L)).length = cur.length := spl_length _ _ _
    refine own_shut hb (by rw [spl_length, hs1]; exact hcl) ?_ hc1 (by omega) (by unfold maxLen; omega) (by rw [flat_len El.L 19 El.len, hel])
    rw [spl_take_le vs _ _ _ (by rw [hs1, hcl, hv]; omega) (Nat.le_refl _)]
    have e1 : (es.length - 1) * 19 = k * 19 + ((es.drop (k + 1)).flatMap El.L).length := by rw [hnl]; omega
    rw [e1, spl_take_all _ _ _ HFIT.out, List.eraseIdx_eq_take_drop_succ, List.flatMap_append]
    congr 1
    have : cur.take (k * 19) = (cur.take (es.length * 19)).take (k * 19) := by rw [List.take_take, Nat.min_eq_left (by omega)]
    rw [this, hct, flat_take El.L 19 El.len])
  have HC1 := Go.Lib.hid hc1
  clear hcur hct hcl hc4 hE
  have b1 : (0 : Int) ≤ (k : Int) := by omega
  have b2 : (k : Int) ≤ (k : Int) + 1 := by omega
  have b3 : (k : Int) + 1 ≤ (es.length : Int) := by omega
  have b4 : (k : Int) ≤ (es.length : Int) := by omega
  have b5 : (es.length : Int) ≤ (c : Int) := by omega
  have b6 : ((k : Int) + 1).toNat = k + 1 := by omega
  have b7 : (k : Int) ≤ (c : Int) := by omega
  have b7n : k ≤ c := by omega
  have b8 : (0 : Int) ≤ (k : Int) + 1 := by omega
  have b9 : (k : Int) + 1 ≤ (c : Int) := by omega
  have t1 : ((k : Int) == (k : Int) + 1) = false := by rw [beq_eq_false_iff_ne]; omega
  go_enter Try.func57, Try.ntmps57
  go_upto_region 5 with fail
  try simp only [Act.put, List.setIfInBounds_toArray, List.set_cons_zero, List.set_cons_succ]
  refine wp_region_held_drew (S := fun Y => Only gL w Y) (by kernel_rfl) ?_ (fun hHeld => ?_)
  · exact Only.refl.drew
  refine wpAnyH_take (i := 0) (oi := ⟨some 20, _, _, _, _, _⟩) (v := ?_) rfl (by kernel_rfl) (by kernel_rfl) (by kernel_rfl) (fun _ _ _ h => h) (Or.inl ⟨by rfl, ?_⟩) (by assumption) ?_
  rotate_left
  · intro w hSw; (try dsimp only at hSw); go_simp; (try with_reducible rfl)
  try simp only [Act.put, List.setIfInBounds_toArray, List.set_cons_zero, List.set_cons_succ]
  refine wpAnyH_take (i := 1) (oi := ⟨some 21, _, _, _, _, _⟩) (v := ?_) rfl (by kernel_rfl) (by kernel_rfl) (by kernel_rfl) (fun _ _ _ h => h) (Or.inl ⟨by rfl, ?_⟩) (by assumption) ?_
  rotate_left
  · intro w hSw; (try dsimp only at hSw); go_simp; (try with_reducible rfl)
  try simp only [Act.put, List.setIfInBounds_toArray, List.set_cons_zero, List.set_cons_succ]
  refine wpAnyH_take (i := 2) (oi := ⟨some 22, _, _, _, _, _⟩) (v := ?_) rfl (by kernel_rfl) (by kernel_rfl) (by kernel_rfl) (fun _ _ _ h => h) (Or.inl ⟨by rfl, ?_⟩) (by assumption) ?_
  rotate_left
  · intro w hSw; (try dsimp only at hSw); go_simp; (try with_reducible rfl)
  try simp only [Act.put, List.setIfInBounds_toArray, List.set_cons_zero, List.set_cons_succ]
  refine wpAnyH_take (i := 3) (oi := ⟨some 23, _, _, _, _, _⟩) (v := ?_) rfl (by kernel_rfl) (by kernel_rfl) (by kernel_rfl) (fun _ _ _ h => h) (Or.inl ⟨by rfl, ?_⟩) (by assumption) ?_
  rotate_left
  · intro w hSw; (try dsimp only at hSw); go_simp; (try with_reducible rfl)
  try simp only [Act.put, List.setIfInBounds_toArray, List.set_cons_zero, List.set_cons_succ]
  refine wpAnyH_take (i := 4) (oi := ⟨some 24, _, _, _, _, _⟩) (v := ?_) rfl (by kernel_rfl) (by kernel_rfl) (by kernel_rfl) (fun _ _ _ h => h) (Or.inl ⟨by rfl, ?_⟩) (by assumption) ?_
  rotate_left
  · intro w hSw; (try dsimp only at hSw); go_simp; (try with_reducible rfl)
  try simp only [Act.put, List.setIfInBounds_toArray, List.set_cons_zero, List.set_cons_succ]
  refine wpAnyH_take (i := 5) (oi := ⟨some 25, _, _, _, _, _⟩) (v := ?_) rfl (by kernel_rfl) (by kernel_rfl) (by kernel_rfl) (fun _ _ _ h => h) (Or.inl ⟨by rfl, ?_⟩) (by assumption) ?_
  rotate_left
  · intro w hSw; (try dsimp only at hSw); go_simp; (try with_reducible rfl)
  try simp only [Act.put, List.setIfInBounds_toArray, List.set_cons_zero, List.set_cons_succ]
  refine wpAnyH_ready (rs := [6]) (by kernel_rfl) (by simp) (AllReadyH.cons (o := ⟨some 26, _, _, _, _, _⟩) rfl (fun Kc hKc => ?_) AllReadyH.nil)
  rw [if_pos (by rfl)]
  refine step_append_row _ _ 40 rfl 67 i0 19 Try.underlying40 hi hz1 gL k c cur rfl HCUR.out ad (es.length - (k + 1)) (c - (k + 1)) ((es.drop (k + 1)).flatMap El.L) rfl HNL.out HNW.out (el_one _) (by omega) HFIT.out ?_; intro w2 hb2 ho2; have HB2 := Go.Lib.hid hb2; clear hb2
  refine hKc.out _ _ (hHeld.trans ho2) (fun hHeld => ?_)
  clear hKc Kc
  try simp only [Act.put, List.setIfInBounds_toArray, List.set_cons_zero, List.set_cons_succ]
  refine wpAnyH_take (i := 7) (oi := ⟨some 0, _, _, _, _, _⟩) (v := ?_) rfl (by kernel_rfl) (by kernel_rfl) (by kernel_rfl) (fun _ _ _ h => h) (Or.inl ⟨by rfl, ?_⟩) (by assumption) ?_
  rotate_left
  · intro w hSw; (try dsimp only at hSw); go_simp; (try with_reducible rfl)
  try simp only [Act.put, List.setIfInBounds_toArray, List.set_cons_zero, List.set_cons_succ]
  refine wpAnyH_done (by kernel_rfl) ?_ _
  have HO2 := Go.Lib.hid hHeld
  clear hHeld
  obtain ⟨m, hm⟩ : ∃ m, es.length = m + 1 := ⟨es.length - 1, by omega⟩
  have e9 : k + (es.length - (k + 1)) = m := by omega
  rw [e9]
  have g1 : (m : Int) ≤ (es.length : Int) := by omega
  have g2 : (es.length : Int) ≤ (c : Int) := by omega
  have g3 : (0 : Int) ≤ (m : Int) := by omega
  have g4 : es.length - m = 1 := by omega
  have g5 : (if c = m then some (⟨gL, 0, none⟩ : Addr) else some ⟨gL, m * 19, none⟩) = some ⟨gL, m * 19, none⟩ := if_neg (by omega)
  have HCL3 : Hid (m * 19 + 1 * 19 ≤ (spl cur (k * 19) ((es.drop (k + 1)).flatMap El.L)).length) := Go.Lib.hid (by rw [spl_length, HCL.out]; omega)
  have HM := Go.Lib.hid (show es.length - 1 = m by omega)
  clear had e9
  go_wp2_with (first
    | (refine wpList_clear_row rfl _ 40 rfl 67 zBf Try.underlying40 zero_bf (by simp) (by simp [Value.oneCell']) gL (m * 19) 1 (c - m) _ rfl HB2.out HCL3.out ?_; intro w3 vs hvs hb3 ho3; have HB3 := Go.Lib.hid hb3; clear hb3))
  go_ret
  refine ⟨show Ending.returned (.slice (some ⟨gL, 0, none⟩) m c) = _ by rw [HM.out], HFIN.out vs w3 hvs (by rw [HM.out]; exact HB3.out), HO2.out.trans ho3⟩
set_option maxRecDepth 100000 in
set_option maxHeartbeats 4000000 in
/-- a pool without one of its packets: its row has turned, and nothing else that was there. -/
theorem cwithout (p : Po) (gL c k : Nat) (es : List El) (base : Nat) (w : World) (hE : OwnB w base (some ⟨gL, 0, none⟩) c es) (hp : es.map El.b = p.list) (hk : k < es.length) (hn : es.length ≤ 16777216) :
    Calls Try.prog 34 #[poV p (some ⟨gL, 0, none⟩) c, .int .i64 k] w fun e w' => e = .returned (poV ⟨p.room, p.life, p.now, p.list.eraseIdx k⟩ (some ⟨gL, 0, none⟩) c) ∧ OwnB w' base (some ⟨gL, 0, none⟩) c (es.eraseIdx k) ∧ Gro gL w w' := by
  have hl : p.list.length = es.length := by rw [← hp, List.length_map]
  have HL := Go.Lib.hid hl
  clear hl
  obtain ⟨gL', e1, hL1, hL2⟩ := (own_addr hE).resolve_left (by rintro ⟨h, _⟩; cases h)
  injection e1 with e1
  injection e1 with e1
  subst e1
  have y0 : Below w.heap.size w ((w.alloc (oPo p (some ⟨gL, 0, none⟩) c)).alloc (oPo po0 none 0)) := below_alloc (below_alloc (Below.refl _ _) (Nat.le_refl _) _) (by simp) _
  have h1 := (Bxo.made w 42 (poL p (some ⟨gL, 0, none⟩) c)).alloc (oPo po0 none 0)
  have h2 : Bxo ((w.alloc (oPo p (some ⟨gL, 0, none⟩) c)).alloc (oPo po0 none 0)) (w.heap.size + 1) 42 (poL po0 none 0) := by
    have := Bxo.made (w.alloc (oPo p (some ⟨gL, 0, none⟩) c)) 42 (poL po0 none 0)
    simpa using this
  have hz : ((w.alloc (oPo p (some ⟨gL, 0, none⟩) c)).alloc (oPo po0 none 0)).heap.size = w.heap.size + 2 := by simp
  have HE := Go.Lib.hid (own_keep hE (y0.block gL hL2))
  have HEC := own_cap hE
  unfold maxLen at HEC
  obtain ⟨c1, c2⟩ := HEC
  clear hE
  go_enter Try.func34, Try.ntmps34
  go_upto_region 1 with fail
  generalize ((w.alloc (oPo p (some ⟨gL, 0, none⟩) c)).alloc (oPo po0 none 0)) = W at *
  have H1 := Go.Lib.hid h1
  have H2 := Go.Lib.hid h2
  clear h1 h2
  have d3 : W.cell? ⟨w.heap.size, 3, none⟩ = some (.slice (some ⟨gL, 0, none⟩) es.length c) := by rw [← HL.out]; exact H1.out.cell 3 rfl
  have s1 : IntKind.i64.wrap ((k : Int) + 1) = (k : Int) + 1 := IntWalk.i64_in _ (by omega)
  go_wp2_with (first
    | (go_at_call 57; refine (cdelete gL c k es base W HE.out hk hn).mono ?_; rintro e w2 ⟨rfl, hb2, ho2⟩; have HB2 := Go.Lib.hid hb2; have K2 := Go.Lib.hid (H1.out.only ho2 (by omega)); have Z2 := Go.Lib.hid (H2.out.only ho2 (by omega)); clear hb2 d3; dsimp only)
    | (refine wpList_store_any rfl 40 _ _ rfl w.heap.size 3 42 _ [.slice (some ⟨gL, 0, none⟩) (es.length - 1) c] _ rfl rfl rfl K2.out info_sb (by show 3 + 1 ≤ 4; omega) (by simp [Value.oneCell']) ?_; intro w3 hb3 ho3; have K3 : Hid (Bxo w3 w.heap.size 42 [.int .i64 p.room, .int .i64 p.life, .int .i64 p.now, .slice (some ⟨gL, 0, none⟩) (es.length - 1) c]) := Go.Lib.hid hb3; clear hb3)
    | (refine wpList_load_box rfl 42 _ rfl w.heap.size rfl _ _ K3.out Try.underlying42 rfl info_po ?_)
    | (refine wpList_store_whole rfl 42 _ _ rfl (w.heap.size + 1) _ [.int .i64 p.room, .int .i64 p.life, .int .i64 p.now, .slice (some ⟨gL, 0, none⟩) (es.length - 1) c] rfl rfl (Z2.out.only ho3 (by omega)) info_po rfl (by simp [Value.oneCell']) ?_; intro w4 hb4 ho4; have HB4 := Go.Lib.hid hb4; clear hb4))
  have hg : Gro gL w w4 := ⟨((ho4.os.trans ho3.os).trans ho2.os).trans y0.os, ((ho4.tape.trans ho3.tape).trans ho2.tape).trans y0.tape, ((ho4.output.trans ho3.output).trans ho2.output).trans y0.output, by rw [ho4.size, ho3.size, ho2.size]; exact y0.size, fun x hx hne => (((ho4.block x (by omega)).trans (ho3.block x (by omega))).trans (ho2.block x hne)).trans (y0.block x hx)⟩
  have e : (p.list.eraseIdx k).length = es.length - 1 := by rw [List.length_eraseIdx, HL.out, if_pos hk]
  have ev : poV ⟨p.room, p.life, p.now, p.list.eraseIdx k⟩ (some ⟨gL, 0, none⟩) c = .agg #[.int .i64 p.room, .int .i64 p.life, .int .i64 p.now, .slice (some ⟨gL, 0, none⟩) (es.length - 1) c] := by
    show Value.agg #[_, _, _, .slice _ (p.list.eraseIdx k).length c] = _
    rw [e]
  refine bodyPost_ret (v := .agg #[.int .i64 p.room, .int .i64 p.life, .int .i64 p.now, .slice (some ⟨gL, 0, none⟩) (es.length - 1) c]) (results_cell_row rfl _ _ (w.heap.size + 1) 42 _ _ _ rfl HB4.out Try.underlying42 rfl info_po) rfl ⟨by rw [ev], own_keep HB2.out ((ho4.block gL (by omega)).trans (ho3.block gL (by omega))), hg⟩
end Go.Proofs.Ytmblkgnjcmneeaa
