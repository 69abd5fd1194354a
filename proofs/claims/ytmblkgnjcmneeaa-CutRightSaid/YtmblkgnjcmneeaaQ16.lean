/- Lemmas, several texts in one. -/
import Derived.Deep.RegionHeld3
import Derived.Deep.DeepCutAuto
import Derived.Test.YtmblkgnjcmneeaaQ14
/- The contract of package cut's pieces. -/
namespace Go.Proofs.Ytmblkgnjcmneeaa
open Go.ChangeShapes Go.WideShapes Go.ChangeAt Go.RowKit
set_option linter.unusedVariables false
set_option linter.unusedSimpArgs false

set_option maxRecDepth 100000 in
set_option maxHeartbeats 16000000 in
theorem ccutPiece (p : Pk) (Ao : Option Addr) (co : Nat) (Ab : Option Addr) (cb : Nat) (n m i : Nat) (l : List Pk) (w : World) (V : Nat → Prop) (hP : PlanR p l n m) (hi : i < m) (hp : PkAt w V p Ao co Ab cb) (ho : p.opts.length ≤ 16777216) :
    Calls Try.prog 20 #[plV p Ao co Ab cb n m, .int .i64 i] w fun e w' => ∃ A2 c2 A3 c3, e = .returned (ipV (pieceAt p n m i) A2 c2 A3 c3) ∧ PkAt w' (growV V w w') (pieceAt p n m i) A2 c2 A3 c3 ∧ Below w.heap.size w w' := by
  obtain ⟨bd, bd2⟩ := hP.bd i hi
  have mf := hP.mf i hi
  have n1 := hP.n1
  have fit := hP.may.fit
  have o0 := hP.may.o0
  obtain ⟨F, hF⟩ : ∃ F, i * n = F := ⟨_, rfl⟩
  obtain ⟨T, hT⟩ : ∃ T, min (F + n) p.body.length = T := ⟨_, rfl⟩
  obtain ⟨x, hx⟩ : ∃ x, pieceAt p n m i = x := ⟨_, rfl⟩
  obtain ⟨b7, hb7⟩ : ∃ b7, (p.body.drop F).take n = b7 := ⟨_, rfl⟩
  obtain ⟨more, hmore⟩ : ∃ more, decide (i + 1 < m) = more := ⟨_, rfl⟩
  have hx2 : x = ⟨p.tos, p.id, p.df, p.mf || more, p.off + (F : Nat), p.ttl, p.proto, p.src, p.dst, p.opts, b7⟩ := by rw [← hx, ← hb7, ← hmore, ← hF]; rfl
  have hb8 : b7 = (p.body.take T).drop F := by
    rw [← hb7, ← hT, List.drop_take, List.take_eq_take_iff, List.length_drop]
    omega
  rw [hx]
  have hl7 : b7.length = T - F := by rw [← hb7, List.length_take, List.length_drop]; omega
  rw [hF] at bd bd2 mf
  have tlt : decide (T < p.body.length) = more := by rw [← hmore, Bool.eq_iff_iff, decide_eq_true_eq, decide_eq_true_eq, ← mf]; omega
  have HX : Hid (∀ A2 c2 A3 c3, pkL x A2 c2 A3 c3 = [.int .i64 p.tos, .int .i64 p.id, .bool p.df, .bool (p.mf || more), .int .i64 (p.off + (F : Nat)), .int .i64 p.ttl, .int .i64 p.proto, .int .u32 p.src, .int .u32 p.dst, .slice A2 p.opts.length c2, .slice A3 (T - F) c3]) := Go.Lib.hid (fun A2 c2 A3 c3 => by rw [hx2, ← hl7])
  have HE : Hid (∀ A2 c2 A3 c3 w6, ByIn w6 (growV V w w6) A2 c2 p.opts → ByIn w6 (growV V w w6) A3 c3 b7 → (∀ b, growV V w w6 b → b < w6.heap.size) → PkAt w6 (growV V w w6) x A2 c2 A3 c3) := Go.Lib.hid (fun A2 c2 A3 c3 w6 h1 h2 h3 => by rw [hx2]; exact ⟨hp.s0, hp.s1, hp.d0, hp.d1, h1, h2, h3⟩)
  have HV := Go.Lib.hid hp.lt
  have tb : T ≤ p.body.length ∧ F ≤ T ∧ T ≤ F + n := by omega
  have HL7 := Go.Lib.hid hl7
  have HB7 := Go.Lib.hid hb8
  have HMF := Go.Lib.hid mf
  have HTL := Go.Lib.hid tlt
  have HTM := Go.Lib.hid hT
  have HFB : Hid (F = 0 ∨ F < p.body.length) := Go.Lib.hid (bd2.imp (fun h => by rw [← hF, h]; simp) id)
  have f1 : IntKind.i64.wrap ((i : Int) * (n : Int)) = (F : Int) := by rw [show (i : Int) * (n : Int) = ((i * n : Nat) : Int) by simp, hF]; exact IntWalk.i64_in _ (by omega)
  have f2 : IntKind.i64.wrap ((F : Int) + (n : Int)) = (F : Int) + (n : Int) := IntWalk.i64_in _ (by omega)
  have f3 : IntKind.i64.wrap (p.off + (F : Int)) = p.off + (F : Int) := IntWalk.i64_in _ (by omega)
  have y0 : Below w.heap.size w ((w.alloc (oPl p Ao co Ab cb n m)).alloc (oPk pk0 none 0 none 0)) := below_alloc (below_alloc (Below.refl _ _) (Nat.le_refl _) _) (by simp) _
  have h1 := (Bxo.made w 50 (plL p Ao co Ab cb n m)).alloc (oPk pk0 none 0 none 0)
  have h2 : Bxo ((w.alloc (oPl p Ao co Ab cb n m)).alloc (oPk pk0 none 0 none 0)) (w.heap.size + 1) 25 (pkL pk0 none 0 none 0) := by
    have := Bxo.made (w.alloc (oPl p Ao co Ab cb n m)) 25 (pkL pk0 none 0 none 0)
    simpa using this
  have hz : ((w.alloc (oPl p Ao co Ab cb n m)).alloc (oPk pk0 none 0 none 0)).heap.size = w.heap.size + 2 := by simp
  have HP := Go.Lib.hid hp
  have HN2 : Hid (¬ V (w.heap.size + 1)) := Go.Lib.hid (fun h => by have := hp.lt _ h; omega)
  have HN3 : Hid (¬ V (w.heap.size + 2)) := Go.Lib.hid (fun h => by have := hp.lt _ h; omega)
  have q1 := hp.o.len
  have q2 := hp.o.cap
  have q3 := hp.b.len
  have q4 := hp.b.cap
  clear hp hx hx2 hmore hb7 hb8 tlt hl7 mf bd2 hP hF hT
  go_enter Try.func20, Try.ntmps20
  go_upto_region 1 with fail
  generalize ((w.alloc (oPl p Ao co Ab cb n m)).alloc (oPk pk0 none 0 none 0)) = W at *
  have H1 := Go.Lib.hid h1
  have H2 := Go.Lib.hid h2
  clear h1 h2
  have s3 : W.heap.size < (W.alloc (oPk p Ao co Ab cb)).heap.size := by simp
  have y3 : Below w.heap.size w (W.alloc (oPk p Ao co Ab cb)) := below_alloc y0 (by omega) _
  have h3 : Bxo (W.alloc (oPk p Ao co Ab cb)) (w.heap.size + 2) 25 (pkL p Ao co Ab cb) := by
    have := Bxo.made W 25 (pkL p Ao co Ab cb)
    rwa [hz] at this
  have e3 : (W.alloc (oPk p Ao co Ab cb)).heap.size = w.heap.size + 3 := by simp [hz]
  have K1 := Go.Lib.hid (H1.out.alloc (oPk p Ao co Ab cb))
  have K2 := Go.Lib.hid (H2.out.alloc (oPk p Ao co Ab cb))
  have K3 := Go.Lib.hid h3
  clear h3
  go_upto_region 2 with (first
    | (refine wpList_load_pk rfl _ rfl ⟨w.heap.size, 0, none⟩ rfl p Ao co Ab cb (H1.out.mid 0 _ (sub_get rfl)) ?_)
    | (refine wpList_store_new rfl 25 _ _ rfl _ (pkL p Ao co Ab cb).toArray rfl rfl info_pk rfl (pk_one _ _ _ _ _) ?_))
  generalize W.alloc (oPk p Ao co Ab cb) = W3 at *
  clear H1 H2 s3
  have c11 := K1.out.cell 11 rfl
  have c10 := K3.out.cell 10 rfl
  have c4 := K3.out.cell 4 rfl
  have c3 := K3.out.cell 3 rfl
  go_upto_region 3 with fail
  have hmin : (if (p.body.length : Int) < (F : Int) + (n : Int) then (p.body.length : Int) else (F : Int) + (n : Int)) = (T : Int) := by rw [← HTM.out]; split <;> omega
  go_upto_region 5 with (refine wpList_store_any rfl 3 _ _ rfl (w.heap.size + 2) 4 25 _ [.int .i64 (p.off + (F : Int))] _ rfl rfl rfl K3.out info_i1 (by show 4 + 1 ≤ 11; omega) (by simp [Value.oneCell']) ?_; intro w4 hb4 ho4; have K4 := Go.Lib.hid hb4; clear hb4)
  clear c11 c10 c4 c3
  have c3 := K4.out.cell 3 rfl
  have c10 := K4.out.cell 10 rfl
  try simp only [Act.put, List.setIfInBounds_toArray, List.set_cons_zero, List.set_cons_succ]
  go_cut [] (fun wx => Only (w.heap.size + 2) w4 wx ∧ Bxo wx (w.heap.size + 2) 25 [.int .i64 p.tos, .int .i64 p.id, .bool p.df, .bool (p.mf || more), .int .i64 (p.off + (F : Nat)), .int .i64 p.ttl, .int .i64 p.proto, .int .u32 p.src, .int .u32 p.dst, .slice Ao p.opts.length co, .slice Ab p.body.length cb])
  case first =>
    have htl := HTL.out
    cases hmf : p.mf
    · rw [hmf] at c3
      by_cases hlt : T < p.body.length
      · have hlt2 : (T : Int) < (p.body.length : Int) := by omega
        rw [decide_eq_true hlt] at htl
        subst htl
        go_wp2_with (refine wpList_store_any rfl 4 _ _ rfl (w.heap.size + 2) 3 25 _ [.bool true] _ rfl rfl rfl K4.out info_b1 (by show 3 + 1 ≤ 11; omega) (by simp [Value.oneCell']) ?_; intro w5 hb5 ho5)
        go_meet
        exact ⟨ho5, by have h := hb5; rw [hmf]; exact h⟩
      · have hlt2 : ¬ (T : Int) < (p.body.length : Int) := by omega
        rw [decide_eq_false hlt] at htl
        subst htl
        go_wp2_with (refine wpList_store_any rfl 4 _ _ rfl (w.heap.size + 2) 3 25 _ [.bool false] _ rfl rfl rfl K4.out info_b1 (by show 3 + 1 ≤ 11; omega) (by simp [Value.oneCell']) ?_; intro w5 hb5 ho5)
        go_meet
        exact ⟨ho5, by have h := hb5; rw [hmf]; exact h⟩
    · rw [hmf] at c3
      go_wp2_with (refine wpList_store_any rfl 4 _ _ rfl (w.heap.size + 2) 3 25 _ [.bool true] _ rfl rfl rfl K4.out info_b1 (by show 3 + 1 ≤ 11; omega) (by simp [Value.oneCell']) ?_; intro w5 hb5 ho5)
      go_meet
      exact ⟨ho5, by have h := hb5; rw [hmf]; exact h⟩
  case rest =>
    obtain ⟨ho5, hb5⟩ := hcut
    have X6 := Go.Lib.hid hb5
    have y6 := (y3.trans (ho4.below (by omega))).trans (ho5.below (by omega))
    have z5 := ho5.size
    have z4 := ho4.size
    have Z6 := Go.Lib.hid ((K2.out.only ho4 (by omega)).only ho5 (by omega))
    have HP6 := Go.Lib.hid (HP.out.at y6)
    clear hb5 c3 c10 K1 K2 K3 K4
    clear ho5 ho4
    have zz : wc.heap.size = w.heap.size + 3 := by omega
    clear z4 z5 e3
    generalize wc = W6 at *
    have HB := Go.Lib.hid HP6.out.b
    rcases Ab with _ | adb
    · have hcb : cb = 0 := HB.out.nil rfl
      have hF : F = 0 := by omega
      have hT : T = 0 := by omega
      have H7 : Hid (ByIn W6 V none 0 b7) := Go.Lib.hid ⟨by rw [HL7.out]; omega, by omega, fun _ => rfl, .inl (List.eq_nil_of_length_eq_zero (by rw [HL7.out]; omega))⟩
      subst hcb hF hT
      go_upto_region 6 with fail
      try simp only [Act.put, List.setIfInBounds_toArray, List.set_cons_zero, List.set_cons_succ]
      refine wp_region_held_drew (S := fun Y => Below w.heap.size w Y) (by kernel_rfl) ?_ (fun hHeld => ?_)
      · exact y6.drew
      have X6 : Hid (Bxo W6.drew (w.heap.size + 2) 25 _) := Go.Lib.hid X6.out.drew
      have Z6 : Hid (Bxo W6.drew (w.heap.size + 1) 25 (pkL pk0 none 0 none 0)) := Go.Lib.hid Z6.out.drew
      have HO : Hid (ByIn W6.drew V Ao co p.opts) := Go.Lib.hid (HP6.out.at (show Below W6.heap.size W6 W6.drew from (Below.refl _ _).drew)).o
      have HLT : Hid (∀ b, V b → b < W6.drew.heap.size) := Go.Lib.hid HP6.out.lt
      have H7 : Hid (ByIn W6.drew V none 0 b7) := Go.Lib.hid (H7.out.keepH (fun _ _ => rfl))
      have l1 : w.heap.size < W6.drew.heap.size := by show _ < W6.heap.size; omega
      have l2 : w.heap.size + 1 < W6.drew.heap.size := by show _ < W6.heap.size; omega
      have l3 : w.heap.size + 2 < W6.drew.heap.size := by show _ < W6.heap.size; omega
      clear HP6 y6
      generalize W6.drew = W6 at *
      have c9 := X6.out.cell 9 rfl
      have c10 := X6.out.cell 10 rfl
      refine wpAnyH_take (i := 0) (oi := ⟨some 37, _, _, _, _, _⟩) (v := ?_) rfl (by kernel_rfl) (by kernel_rfl) (by kernel_rfl) (fun _ _ _ h => h) (Or.inl ⟨by rfl, ?_⟩) (by assumption) ?_
      rotate_left
      · intro w hSw; (try dsimp only at hSw); go_simp; (try with_reducible rfl)
      try simp only [Act.put, List.setIfInBounds_toArray, List.set_cons_zero, List.set_cons_succ]
      refine wpAnyH_take (i := 3) (oi := ⟨some 40, _, _, _, _, _⟩) (v := ?_) rfl (by kernel_rfl) (by kernel_rfl) (by kernel_rfl) (fun _ _ _ h => h) (Or.inl ⟨by rfl, ?_⟩) (by assumption) ?_
      rotate_left
      · intro w hSw; (try dsimp only at hSw); go_simp; (try with_reducible rfl)
      try simp only [Act.put, List.setIfInBounds_toArray, List.set_cons_zero, List.set_cons_succ]
      refine wpAnyH_take (i := 5) (oi := ⟨some 42, _, _, _, _, _⟩) (v := ?_) rfl (by kernel_rfl) (by kernel_rfl) (by kernel_rfl) (fun _ _ _ h => h) (Or.inl ⟨by rfl, ?_⟩) (by assumption) ?_
      rotate_left
      · intro w hSw; (try dsimp only at hSw); go_simp; (try with_reducible rfl)
      try simp only [Act.put, List.setIfInBounds_toArray, List.set_cons_zero, List.set_cons_succ]
      refine wpAnyH_take (i := 6) (oi := ⟨some 43, _, _, _, _, _⟩) (v := ?_) rfl (by kernel_rfl) (by kernel_rfl) (by kernel_rfl) (fun _ _ _ h => h) (Or.inl ⟨by rfl, ?_⟩) (by assumption) ?_
      rotate_left
      · intro w hSw; (try dsimp only at hSw); go_simp; (try with_reducible rfl)
      try simp only [Act.put, List.setIfInBounds_toArray, List.set_cons_zero, List.set_cons_succ]
      refine wpAnyH_ready (rs := [1, 4]) (by kernel_rfl) (by simp) (AllReadyH.cons (o := ⟨some 38, _, _, _, _, _⟩) rfl (fun Kc hKc => ?_) (AllReadyH.cons (o := ⟨some 41, _, _, _, _, _⟩) rfl (fun Kc hKc => ?_) AllReadyH.nil))
      ·
        go_simp
        refine hKc.out _ _ (hHeld) (fun hHeld => ?_)
        clear hKc Kc
        try simp only [Act.put, List.setIfInBounds_toArray, List.set_cons_zero, List.set_cons_succ]
        refine wpAnyH_ready (rs := [2, 4]) (by kernel_rfl) (by simp) (AllReadyH.cons (o := ⟨some 39, _, _, _, _, _⟩) rfl (fun Kc hKc => ?_) (AllReadyH.cons (o := ⟨some 41, _, _, _, _, _⟩) rfl (fun Kc hKc => ?_) AllReadyH.nil))
        ·
          go_simp
          go_at_call 40; refine (ccloneV Ao _ co p.opts W6 V rfl HO.out HLT.out ho).mono ?_; rintro e w2 ⟨A2, c2, rfl, hb2, hf2, y2⟩; have HB2 := Go.Lib.hid hb2; have c10' := (X6.out.keep y2 l3).cell 10 rfl; dsimp only
          refine hKc.out _ _ (hHeld.trans (y2.mono hHeld.size)) (fun hHeld => ?_)
          clear hKc Kc
          try simp only [Act.put, List.setIfInBounds_toArray, List.set_cons_zero, List.set_cons_succ]
          refine wpAnyH_ready (rs := [4]) (by kernel_rfl) (by simp) (AllReadyH.cons (o := ⟨some 41, _, _, _, _, _⟩) rfl (fun Kc hKc => ?_) AllReadyH.nil)
          go_simp
          refine hKc.out _ _ (hHeld) (fun hHeld => ?_)
          clear hKc Kc
          try simp only [Act.put, List.setIfInBounds_toArray, List.set_cons_zero, List.set_cons_succ]
          refine wpAnyH_take (i := 7) (oi := ⟨some 44, _, _, _, _, _⟩) (v := ?_) rfl (by kernel_rfl) (by kernel_rfl) (by kernel_rfl) (fun _ _ _ h => h) (Or.inl ⟨by rfl, ?_⟩) (by assumption) ?_
          rotate_left
          · intro w hSw; (try dsimp only at hSw); go_simp; (try with_reducible rfl)
          try simp only [Act.put, List.setIfInBounds_toArray, List.set_cons_zero, List.set_cons_succ]
          refine wpAnyH_take (i := 9) (oi := ⟨some 46, _, _, _, _, _⟩) (v := ?_) rfl (by kernel_rfl) (by kernel_rfl) (by kernel_rfl) (fun _ _ _ h => h) (Or.inl ⟨by rfl, ?_⟩) (by assumption) ?_
          rotate_left
          · intro w hSw; (try dsimp only at hSw); go_simp; (try with_reducible rfl)
          try simp only [Act.put, List.setIfInBounds_toArray, List.set_cons_zero, List.set_cons_succ]
          refine wpAnyH_ready (rs := [8]) (by kernel_rfl) (by simp) (AllReadyH.cons (o := ⟨some 45, _, _, _, _, _⟩) rfl (fun Kc hKc => ?_) AllReadyH.nil)
          go_simp
          go_at_call 40; refine (ccloneV none _ 0 b7 w2 V HL7.out (H7.out.keep (KeepV.of y2 HLT.out)) (fun b h => Nat.lt_of_lt_of_le (HLT.out b h) y2.size) (by omega)).mono ?_; rintro e w3 ⟨A3, c3, rfl, hb3, hf3, y3⟩; have HB3 := Go.Lib.hid hb3; have K1 := Go.Lib.hid ((X6.out.keep y2 l3).keep y3 (Nat.lt_of_lt_of_le l3 y2.size)); have K2 := Go.Lib.hid ((Z6.out.keep y2 l2).keep y3 (Nat.lt_of_lt_of_le l2 y2.size)); dsimp only
          refine hKc.out _ _ (hHeld.trans (y3.mono hHeld.size)) (fun hHeld => ?_)
          clear hKc Kc
          try simp only [Act.put, List.setIfInBounds_toArray, List.set_cons_zero, List.set_cons_succ]
          refine wpAnyH_ready (rs := [10]) (by kernel_rfl) (by simp) (AllReadyH.cons (o := ⟨none, _, _, _, _, _⟩) rfl (fun Kc hKc => ?_) AllReadyH.nil)
          rw [if_pos (by rfl)]
          refine step_store_any 23 _ _ rfl (w.heap.size + 2) 9 25 _ [.slice A2 p.opts.length c2] _ rfl rfl rfl K1.out info_bs (by show 9 + 1 ≤ 11; omega) (by simp [Value.oneCell']) ?_; intro w4 hb4 ho4; have K4 := Go.Lib.hid hb4; clear hb4
          refine hKc.out _ _ (hHeld.trans (ho4.below (by omega))) (fun hHeld => ?_)
          clear hKc Kc
          try simp only [Act.put, List.setIfInBounds_toArray, List.set_cons_zero, List.set_cons_succ]
          refine wpAnyH_take (i := 11) (oi := ⟨some 47, _, _, _, _, _⟩) (v := ?_) rfl (by kernel_rfl) (by kernel_rfl) (by kernel_rfl) (fun _ _ _ h => h) (Or.inl ⟨by rfl, ?_⟩) (by assumption) ?_
          rotate_left
          · intro w hSw; (try dsimp only at hSw); go_simp; (try with_reducible rfl)
          try simp only [Act.put, List.setIfInBounds_toArray, List.set_cons_zero, List.set_cons_succ]
          refine wpAnyH_ready (rs := [12]) (by kernel_rfl) (by simp) (AllReadyH.cons (o := ⟨none, _, _, _, _, _⟩) rfl (fun Kc hKc => ?_) AllReadyH.nil)
          rw [if_pos (by rfl)]
          refine step_store_any 23 _ _ rfl (w.heap.size + 2) 10 25 _ [.slice A3 0 c3] _ rfl rfl rfl K4.out info_bs (by show 10 + 1 ≤ 11; omega) (by simp [Value.oneCell']) ?_; intro w5 hb5 ho5; have K5 : Hid (Bxo w5 (w.heap.size + 2) 25 (pkL x A2 c2 A3 c3)) := Go.Lib.hid (by rw [HX.out]; exact hb5); clear hb5
          refine hKc.out _ _ (hHeld.trans (ho5.below (by omega))) (fun hHeld => ?_)
          clear hKc Kc
          try simp only [Act.put, List.setIfInBounds_toArray, List.set_cons_zero, List.set_cons_succ]
          refine wpAnyH_done (by kernel_rfl) ?_ _
          have y5 := Go.Lib.hid hHeld
          have KZ := Go.Lib.hid ((K2.out.only ho4 (by omega)).only ho5 (by omega))
          have z2 := y2.size
          have z3 := y3.size
          have LT2 := Go.Lib.hid (fun b h => Nat.lt_of_lt_of_le (HLT.out b h) z2)
          have HO5 := Go.Lib.hid (((HB2.out.call y3 LT2.out).only ho4 (by omega) HN3.out).only ho5 (by omega) HN3.out)
          have HB5 := Go.Lib.hid (((HB3.out.wide z2).only ho4 (by omega) HN3.out).only ho5 (by omega) HN3.out)
          clear hHeld
          go_wp2_with (first
            | (refine wpList_load_box rfl 25 _ rfl (w.heap.size + 2) rfl (pkL x A2 c2 A3 c3) _ K5.out Try.underlying25 rfl info_pk ?_)
            | (refine wpList_store_whole rfl 25 _ _ rfl (w.heap.size + 1) _ (pkL x A2 c2 A3 c3) rfl rfl KZ.out info_pk rfl (by simp [Value.oneCell']) ?_; intro w6 hb6 ho6; have K6 := Go.Lib.hid hb6; clear hb6))
          have y6 := y5.out.trans (ho6.below (show w.heap.size ≤ w.heap.size + 1 by omega))
          exact bodyPost_ret (v := .agg (pkL x A2 c2 A3 c3).toArray) (results_cell_row rfl _ _ (w.heap.size + 1) 25 _ _ _ rfl K6.out Try.underlying25 rfl info_pk) rfl ⟨A2, c2, A3, c3, rfl, HE.out A2 c2 A3 c3 w6 ((HO5.out.only ho6 (by omega) HN2.out).wide (by omega)) ((HB5.out.only ho6 (by omega) HN2.out).wide (by omega)) (grow_lt HV.out y6.size), y6⟩
        ·
          go_simp
          refine hKc.out _ _ (hHeld) (fun hHeld => ?_)
          clear hKc Kc
          try simp only [Act.put, List.setIfInBounds_toArray, List.set_cons_zero, List.set_cons_succ]
          refine wpAnyH_take (i := 7) (oi := ⟨some 44, _, _, _, _, _⟩) (v := ?_) rfl (by kernel_rfl) (by kernel_rfl) (by kernel_rfl) (fun _ _ _ h => h) (Or.inl ⟨by rfl, ?_⟩) (by assumption) ?_
          rotate_left
          · intro w hSw; (try dsimp only at hSw); go_simp; (try with_reducible rfl)
          try simp only [Act.put, List.setIfInBounds_toArray, List.set_cons_zero, List.set_cons_succ]
          refine wpAnyH_ready (rs := [2]) (by kernel_rfl) (by simp) (AllReadyH.cons (o := ⟨some 39, _, _, _, _, _⟩) rfl (fun Kc hKc => ?_) AllReadyH.nil)
          go_simp
          go_at_call 40; refine (ccloneV Ao _ co p.opts W6 V rfl HO.out HLT.out ho).mono ?_; rintro e w2 ⟨A2, c2, rfl, hb2, hf2, y2⟩; have HB2 := Go.Lib.hid hb2; have c10' := (X6.out.keep y2 l3).cell 10 rfl; dsimp only
          refine hKc.out _ _ (hHeld.trans (y2.mono hHeld.size)) (fun hHeld => ?_)
          clear hKc Kc
          try simp only [Act.put, List.setIfInBounds_toArray, List.set_cons_zero, List.set_cons_succ]
          refine wpAnyH_take (i := 9) (oi := ⟨some 46, _, _, _, _, _⟩) (v := ?_) rfl (by kernel_rfl) (by kernel_rfl) (by kernel_rfl) (fun _ _ _ h => h) (Or.inl ⟨by rfl, ?_⟩) (by assumption) ?_
          rotate_left
          · intro w hSw; (try dsimp only at hSw); go_simp; (try with_reducible rfl)
          try simp only [Act.put, List.setIfInBounds_toArray, List.set_cons_zero, List.set_cons_succ]
          refine wpAnyH_ready (rs := [8]) (by kernel_rfl) (by simp) (AllReadyH.cons (o := ⟨some 45, _, _, _, _, _⟩) rfl (fun Kc hKc => ?_) AllReadyH.nil)
          go_simp
          go_at_call 40; refine (ccloneV none _ 0 b7 w2 V HL7.out (H7.out.keep (KeepV.of y2 HLT.out)) (fun b h => Nat.lt_of_lt_of_le (HLT.out b h) y2.size) (by omega)).mono ?_; rintro e w3 ⟨A3, c3, rfl, hb3, hf3, y3⟩; have HB3 := Go.Lib.hid hb3; have K1 := Go.Lib.hid ((X6.out.keep y2 l3).keep y3 (Nat.lt_of_lt_of_le l3 y2.size)); have K2 := Go.Lib.hid ((Z6.out.keep y2 l2).keep y3 (Nat.lt_of_lt_of_le l2 y2.size)); dsimp only
          refine hKc.out _ _ (hHeld.trans (y3.mono hHeld.size)) (fun hHeld => ?_)
          clear hKc Kc
          try simp only [Act.put, List.setIfInBounds_toArray, List.set_cons_zero, List.set_cons_succ]
          refine wpAnyH_ready (rs := [10]) (by kernel_rfl) (by simp) (AllReadyH.cons (o := ⟨none, _, _, _, _, _⟩) rfl (fun Kc hKc => ?_) AllReadyH.nil)
          rw [if_pos (by rfl)]
          refine step_store_any 23 _ _ rfl (w.heap.size + 2) 9 25 _ [.slice A2 p.opts.length c2] _ rfl rfl rfl K1.out info_bs (by show 9 + 1 ≤ 11; omega) (by simp [Value.oneCell']) ?_; intro w4 hb4 ho4; have K4 := Go.Lib.hid hb4; clear hb4
          refine hKc.out _ _ (hHeld.trans (ho4.below (by omega))) (fun hHeld => ?_)
          clear hKc Kc
          try simp only [Act.put, List.setIfInBounds_toArray, List.set_cons_zero, List.set_cons_succ]
          refine wpAnyH_take (i := 11) (oi := ⟨some 47, _, _, _, _, _⟩) (v := ?_) rfl (by kernel_rfl) (by kernel_rfl) (by kernel_rfl) (fun _ _ _ h => h) (Or.inl ⟨by rfl, ?_⟩) (by assumption) ?_
          rotate_left
          · intro w hSw; (try dsimp only at hSw); go_simp; (try with_reducible rfl)
          try simp only [Act.put, List.setIfInBounds_toArray, List.set_cons_zero, List.set_cons_succ]
          refine wpAnyH_ready (rs := [12]) (by kernel_rfl) (by simp) (AllReadyH.cons (o := ⟨none, _, _, _, _, _⟩) rfl (fun Kc hKc => ?_) AllReadyH.nil)
          rw [if_pos (by rfl)]
          refine step_store_any 23 _ _ rfl (w.heap.size + 2) 10 25 _ [.slice A3 0 c3] _ rfl rfl rfl K4.out info_bs (by show 10 + 1 ≤ 11; omega) (by simp [Value.oneCell']) ?_; intro w5 hb5 ho5; have K5 : Hid (Bxo w5 (w.heap.size + 2) 25 (pkL x A2 c2 A3 c3)) := Go.Lib.hid (by rw [HX.out]; exact hb5); clear hb5
          refine hKc.out _ _ (hHeld.trans (ho5.below (by omega))) (fun hHeld => ?_)
          clear hKc Kc
          try simp only [Act.put, List.setIfInBounds_toArray, List.set_cons_zero, List.set_cons_succ]
          refine wpAnyH_done (by kernel_rfl) ?_ _
          have y5 := Go.Lib.hid hHeld
          have KZ := Go.Lib.hid ((K2.out.only ho4 (by omega)).only ho5 (by omega))
          have z2 := y2.size
          have z3 := y3.size
          have LT2 := Go.Lib.hid (fun b h => Nat.lt_of_lt_of_le (HLT.out b h) z2)
          have HO5 := Go.Lib.hid (((HB2.out.call y3 LT2.out).only ho4 (by omega) HN3.out).only ho5 (by omega) HN3.out)
          have HB5 := Go.Lib.hid (((HB3.out.wide z2).only ho4 (by omega) HN3.out).only ho5 (by omega) HN3.out)
          clear hHeld
          go_wp2_with (first
            | (refine wpList_load_box rfl 25 _ rfl (w.heap.size + 2) rfl (pkL x A2 c2 A3 c3) _ K5.out Try.underlying25 rfl info_pk ?_)
            | (refine wpList_store_whole rfl 25 _ _ rfl (w.heap.size + 1) _ (pkL x A2 c2 A3 c3) rfl rfl KZ.out info_pk rfl (by simp [Value.oneCell']) ?_; intro w6 hb6 ho6; have K6 := Go.Lib.hid hb6; clear hb6))
          have y6 := y5.out.trans (ho6.below (show w.heap.size ≤ w.heap.size + 1 by omega))
          exact bodyPost_ret (v := .agg (pkL x A2 c2 A3 c3).toArray) (results_cell_row rfl _ _ (w.heap.size + 1) 25 _ _ _ rfl K6.out Try.underlying25 rfl info_pk) rfl ⟨A2, c2, A3, c3, rfl, HE.out A2 c2 A3 c3 w6 ((HO5.out.only ho6 (by omega) HN2.out).wide (by omega)) ((HB5.out.only ho6 (by omega) HN2.out).wide (by omega)) (grow_lt HV.out y6.size), y6⟩
      ·
        go_simp
        refine hKc.out _ _ (hHeld) (fun hHeld => ?_)
        clear hKc Kc
        try simp only [Act.put, List.setIfInBounds_toArray, List.set_cons_zero, List.set_cons_succ]
        refine wpAnyH_take (i := 7) (oi := ⟨some 44, _, _, _, _, _⟩) (v := ?_) rfl (by kernel_rfl) (by kernel_rfl) (by kernel_rfl) (fun _ _ _ h => h) (Or.inl ⟨by rfl, ?_⟩) (by assumption) ?_
        rotate_left
        · intro w hSw; (try dsimp only at hSw); go_simp; (try with_reducible rfl)
        try simp only [Act.put, List.setIfInBounds_toArray, List.set_cons_zero, List.set_cons_succ]
        refine wpAnyH_ready (rs := [1]) (by kernel_rfl) (by simp) (AllReadyH.cons (o := ⟨some 38, _, _, _, _, _⟩) rfl (fun Kc hKc => ?_) AllReadyH.nil)
        go_simp
        refine hKc.out _ _ (hHeld) (fun hHeld => ?_)
        clear hKc Kc
        try simp only [Act.put, List.setIfInBounds_toArray, List.set_cons_zero, List.set_cons_succ]
        refine wpAnyH_ready (rs := [2]) (by kernel_rfl) (by simp) (AllReadyH.cons (o := ⟨some 39, _, _, _, _, _⟩) rfl (fun Kc hKc => ?_) AllReadyH.nil)
        go_simp
        go_at_call 40; refine (ccloneV Ao _ co p.opts W6 V rfl HO.out HLT.out ho).mono ?_; rintro e w2 ⟨A2, c2, rfl, hb2, hf2, y2⟩; have HB2 := Go.Lib.hid hb2; have c10' := (X6.out.keep y2 l3).cell 10 rfl; dsimp only
        refine hKc.out _ _ (hHeld.trans (y2.mono hHeld.size)) (fun hHeld => ?_)
        clear hKc Kc
        try simp only [Act.put, List.setIfInBounds_toArray, List.set_cons_zero, List.set_cons_succ]
        refine wpAnyH_take (i := 9) (oi := ⟨some 46, _, _, _, _, _⟩) (v := ?_) rfl (by kernel_rfl) (by kernel_rfl) (by kernel_rfl) (fun _ _ _ h => h) (Or.inl ⟨by rfl, ?_⟩) (by assumption) ?_
        rotate_left
        · intro w hSw; (try dsimp only at hSw); go_simp; (try with_reducible rfl)
        try simp only [Act.put, List.setIfInBounds_toArray, List.set_cons_zero, List.set_cons_succ]
        refine wpAnyH_ready (rs := [8]) (by kernel_rfl) (by simp) (AllReadyH.cons (o := ⟨some 45, _, _, _, _, _⟩) rfl (fun Kc hKc => ?_) AllReadyH.nil)
        go_simp
        go_at_call 40; refine (ccloneV none _ 0 b7 w2 V HL7.out (H7.out.keep (KeepV.of y2 HLT.out)) (fun b h => Nat.lt_of_lt_of_le (HLT.out b h) y2.size) (by omega)).mono ?_; rintro e w3 ⟨A3, c3, rfl, hb3, hf3, y3⟩; have HB3 := Go.Lib.hid hb3; have K1 := Go.Lib.hid ((X6.out.keep y2 l3).keep y3 (Nat.lt_of_lt_of_le l3 y2.size)); have K2 := Go.Lib.hid ((Z6.out.keep y2 l2).keep y3 (Nat.lt_of_lt_of_le l2 y2.size)); dsimp only
        refine hKc.out _ _ (hHeld.trans (y3.mono hHeld.size)) (fun hHeld => ?_)
        clear hKc Kc
        try simp only [Act.put, List.setIfInBounds_toArray, List.set_cons_zero, List.set_cons_succ]
        refine wpAnyH_ready (rs := [10]) (by kernel_rfl) (by simp) (AllReadyH.cons (o := ⟨none, _, _, _, _, _⟩) rfl (fun Kc hKc => ?_) AllReadyH.nil)
        rw [if_pos (by rfl)]
        refine step_store_any 23 _ _ rfl (w.heap.size + 2) 9 25 _ [.slice A2 p.opts.length c2] _ rfl rfl rfl K1.out info_bs (by show 9 + 1 ≤ 11; omega) (by simp [Value.oneCell']) ?_; intro w4 hb4 ho4; have K4 := Go.Lib.hid hb4; clear hb4
        refine hKc.out _ _ (hHeld.trans (ho4.below (by omega))) (fun hHeld => ?_)
        clear hKc Kc
        try simp only [Act.put, List.setIfInBounds_toArray, List.set_cons_zero, List.set_cons_succ]
        refine wpAnyH_take (i := 11) (oi := ⟨some 47, _, _, _, _, _⟩) (v := ?_) rfl (by kernel_rfl) (by kernel_rfl) (by kernel_rfl) (fun _ _ _ h => h) (Or.inl ⟨by rfl, ?_⟩) (by assumption) ?_
        rotate_left
        · intro w hSw; (try dsimp only at hSw); go_simp; (try with_reducible rfl)
        try simp only [Act.put, List.setIfInBounds_toArray, List.set_cons_zero, List.set_cons_succ]
        refine wpAnyH_ready (rs := [12]) (by kernel_rfl) (by simp) (AllReadyH.cons (o := ⟨none, _, _, _, _, _⟩) rfl (fun Kc hKc => ?_) AllReadyH.nil)
        rw [if_pos (by rfl)]
        refine step_store_any 23 _ _ rfl (w.heap.size + 2) 10 25 _ [.slice A3 0 c3] _ rfl rfl rfl K4.out info_bs (by show 10 + 1 ≤ 11; omega) (by simp [Value.oneCell']) ?_; intro w5 hb5 ho5; have K5 : Hid (Bxo w5 (w.heap.size + 2) 25 (pkL x A2 c2 A3 c3)) := Go.Lib.hid (by rw [HX.out]; exact hb5); clear hb5
        refine hKc.out _ _ (hHeld.trans (ho5.below (by omega))) (fun hHeld => ?_)
        clear hKc Kc
        try simp only [Act.put, List.setIfInBounds_toArray, List.set_cons_zero, List.set_cons_succ]
        refine wpAnyH_done (by kernel_rfl) ?_ _
        have y5 := Go.Lib.hid hHeld
        have KZ := Go.Lib.hid ((K2.out.only ho4 (by omega)).only ho5 (by omega))
        have z2 := y2.size
        have z3 := y3.size
        have LT2 := Go.Lib.hid (fun b h => Nat.lt_of_lt_of_le (HLT.out b h) z2)
        have HO5 := Go.Lib.hid (((HB2.out.call y3 LT2.out).only ho4 (by omega) HN3.out).only ho5 (by omega) HN3.out)
        have HB5 := Go.Lib.hid (((HB3.out.wide z2).only ho4 (by omega) HN3.out).only ho5 (by omega) HN3.out)
        clear hHeld
        go_wp2_with (first
          | (refine wpList_load_box rfl 25 _ rfl (w.heap.size + 2) rfl (pkL x A2 c2 A3 c3) _ K5.out Try.underlying25 rfl info_pk ?_)
          | (refine wpList_store_whole rfl 25 _ _ rfl (w.heap.size + 1) _ (pkL x A2 c2 A3 c3) rfl rfl KZ.out info_pk rfl (by simp [Value.oneCell']) ?_; intro w6 hb6 ho6; have K6 := Go.Lib.hid hb6; clear hb6))
        have y6 := y5.out.trans (ho6.below (show w.heap.size ≤ w.heap.size + 1 by omega))
        exact bodyPost_ret (v := .agg (pkL x A2 c2 A3 c3).toArray) (results_cell_row rfl _ _ (w.heap.size + 1) 25 _ _ _ rfl K6.out Try.underlying25 rfl info_pk) rfl ⟨A2, c2, A3, c3, rfl, HE.out A2 c2 A3 c3 w6 ((HO5.out.only ho6 (by omega) HN2.out).wide (by omega)) ((HB5.out.only ho6 (by omega) HN2.out).wide (by omega)) (grow_lt HV.out y6.size), y6⟩
    · obtain ⟨A7, hA7⟩ : ∃ A7, (if cb = F then some adb else some (adb.add F)) = A7 := ⟨_, rfl⟩
      have H7 : Hid (ByIn W6 V A7 (cb - F) b7) := Go.Lib.hid (by
        rw [HB7.out, ← hA7]
        split
        · rename_i hcf
          have h0 : F = 0 := by rcases HFB.out with h | h; exact h; omega
          rw [show (p.body.take T).drop F = [] from List.eq_nil_of_length_eq_zero (by rw [List.length_drop, List.length_take]; omega)]
          exact ⟨by simp, by omega, fun h => (by cases h), .inl rfl⟩
        · exact HB.out.part tb.2.1 tb.1 (by omega))
      have kT : T ≤ cb := by omega
      have kF : F ≤ T := tb.2.1
      go_upto_region 6 with fail
      try simp only [Act.put, List.setIfInBounds_toArray, List.set_cons_zero, List.set_cons_succ]
      refine wp_region_held_drew (S := fun Y => Below w.heap.size w Y) (by kernel_rfl) ?_ (fun hHeld => ?_)
      · exact y6.drew
      have X6 : Hid (Bxo W6.drew (w.heap.size + 2) 25 _) := Go.Lib.hid X6.out.drew
      have Z6 : Hid (Bxo W6.drew (w.heap.size + 1) 25 (pkL pk0 none 0 none 0)) := Go.Lib.hid Z6.out.drew
      have HO : Hid (ByIn W6.drew V Ao co p.opts) := Go.Lib.hid (HP6.out.at (show Below W6.heap.size W6 W6.drew from (Below.refl _ _).drew)).o
      have HLT : Hid (∀ b, V b → b < W6.drew.heap.size) := Go.Lib.hid HP6.out.lt
      have H7 : Hid (ByIn W6.drew V A7 (cb - F) b7) := Go.Lib.hid (H7.out.keepH (fun _ _ => rfl))
      have l1 : w.heap.size < W6.drew.heap.size := by show _ < W6.heap.size; omega
      have l2 : w.heap.size + 1 < W6.drew.heap.size := by show _ < W6.heap.size; omega
      have l3 : w.heap.size + 2 < W6.drew.heap.size := by show _ < W6.heap.size; omega
      clear HP6 y6
      generalize W6.drew = W6 at *
      have c9 := X6.out.cell 9 rfl
      have c10 := X6.out.cell 10 rfl
      refine wpAnyH_take (i := 0) (oi := ⟨some 37, _, _, _, _, _⟩) (v := ?_) rfl (by kernel_rfl) (by kernel_rfl) (by kernel_rfl) (fun _ _ _ h => h) (Or.inl ⟨by rfl, ?_⟩) (by assumption) ?_
      rotate_left
      · intro w hSw; (try dsimp only at hSw); go_simp; (try with_reducible rfl)
      try simp only [Act.put, List.setIfInBounds_toArray, List.set_cons_zero, List.set_cons_succ]
      refine wpAnyH_take (i := 3) (oi := ⟨some 40, _, _, _, _, _⟩) (v := ?_) rfl (by kernel_rfl) (by kernel_rfl) (by kernel_rfl) (fun _ _ _ h => h) (Or.inl ⟨by rfl, ?_⟩) (by assumption) ?_
      rotate_left
      · intro w hSw; (try dsimp only at hSw); go_simp; (try with_reducible rfl)
      try simp only [Act.put, List.setIfInBounds_toArray, List.set_cons_zero, List.set_cons_succ]
      refine wpAnyH_take (i := 5) (oi := ⟨some 42, _, _, _, _, _⟩) (v := ?_) rfl (by kernel_rfl) (by kernel_rfl) (by kernel_rfl) (fun _ _ _ h => h) (Or.inl ⟨by rfl, ?_⟩) (by assumption) ?_
      rotate_left
      · intro w hSw; (try dsimp only at hSw); go_simp; (try with_reducible rfl)
      try simp only [Act.put, List.setIfInBounds_toArray, List.set_cons_zero, List.set_cons_succ]
      refine wpAnyH_take (i := 6) (oi := ⟨some 43, _, _, _, _, _⟩) (v := ?_) rfl (by kernel_rfl) (by kernel_rfl) (by kernel_rfl) (fun _ _ _ h => h) (Or.inl ⟨by rfl, ?_⟩) (by assumption) ?_
      rotate_left
      · intro w hSw; (try dsimp only at hSw); go_simp; (try with_reducible rfl)
      try simp only [Act.put, List.setIfInBounds_toArray, List.set_cons_zero, List.set_cons_succ]
      refine wpAnyH_ready (rs := [1, 4]) (by kernel_rfl) (by simp) (AllReadyH.cons (o := ⟨some 38, _, _, _, _, _⟩) rfl (fun Kc hKc => ?_) (AllReadyH.cons (o := ⟨some 41, _, _, _, _, _⟩) rfl (fun Kc hKc => ?_) AllReadyH.nil))
      ·
        go_simp
        refine hKc.out _ _ (hHeld) (fun hHeld => ?_)
        clear hKc Kc
        try simp only [Act.put, List.setIfInBounds_toArray, List.set_cons_zero, List.set_cons_succ]
        refine wpAnyH_ready (rs := [2, 4]) (by kernel_rfl) (by simp) (AllReadyH.cons (o := ⟨some 39, _, _, _, _, _⟩) rfl (fun Kc hKc => ?_) (AllReadyH.cons (o := ⟨some 41, _, _, _, _, _⟩) rfl (fun Kc hKc => ?_) AllReadyH.nil))
        ·
          go_simp
          go_at_call 40; refine (ccloneV Ao _ co p.opts W6 V rfl HO.out HLT.out ho).mono ?_; rintro e w2 ⟨A2, c2, rfl, hb2, hf2, y2⟩; have HB2 := Go.Lib.hid hb2; have c10' := (X6.out.keep y2 l3).cell 10 rfl; dsimp only
          refine hKc.out _ _ (hHeld.trans (y2.mono hHeld.size)) (fun hHeld => ?_)
          clear hKc Kc
          try simp only [Act.put, List.setIfInBounds_toArray, List.set_cons_zero, List.set_cons_succ]
          refine wpAnyH_ready (rs := [4]) (by kernel_rfl) (by simp) (AllReadyH.cons (o := ⟨some 41, _, _, _, _, _⟩) rfl (fun Kc hKc => ?_) AllReadyH.nil)
          go_simp
          refine hKc.out _ _ (hHeld) (fun hHeld => ?_)
          clear hKc Kc
          try simp only [Act.put, List.setIfInBounds_toArray, List.set_cons_zero, List.set_cons_succ]
          refine wpAnyH_take (i := 7) (oi := ⟨some 44, _, _, _, _, _⟩) (v := ?_) rfl (by kernel_rfl) (by kernel_rfl) (by kernel_rfl) (fun _ _ _ h => h) (Or.inl ⟨by rfl, ?_⟩) (by assumption) ?_
          rotate_left
          · intro w hSw; (try dsimp only at hSw); go_simp; (try with_reducible rfl)
          try simp only [Act.put, List.setIfInBounds_toArray, List.set_cons_zero, List.set_cons_succ]
          refine wpAnyH_take (i := 9) (oi := ⟨some 46, _, _, _, _, _⟩) (v := ?_) rfl (by kernel_rfl) (by kernel_rfl) (by kernel_rfl) (fun _ _ _ h => h) (Or.inl ⟨by rfl, ?_⟩) (by assumption) ?_
          rotate_left
          · intro w hSw; (try dsimp only at hSw); go_simp; (try with_reducible rfl)
          try simp only [Act.put, List.setIfInBounds_toArray, List.set_cons_zero, List.set_cons_succ]
          refine wpAnyH_ready (rs := [8]) (by kernel_rfl) (by simp) (AllReadyH.cons (o := ⟨some 45, _, _, _, _, _⟩) rfl (fun Kc hKc => ?_) AllReadyH.nil)
          go_simp
          go_at_call 40; refine (ccloneV A7 _ (cb - F) b7 w2 V HL7.out (H7.out.keep (KeepV.of y2 HLT.out)) (fun b h => Nat.lt_of_lt_of_le (HLT.out b h) y2.size) (by omega)).mono ?_; rintro e w3 ⟨A3, c3, rfl, hb3, hf3, y3⟩; have HB3 := Go.Lib.hid hb3; have K1 := Go.Lib.hid ((X6.out.keep y2 l3).keep y3 (Nat.lt_of_lt_of_le l3 y2.size)); have K2 := Go.Lib.hid ((Z6.out.keep y2 l2).keep y3 (Nat.lt_of_lt_of_le l2 y2.size)); dsimp only
          refine hKc.out _ _ (hHeld.trans (y3.mono hHeld.size)) (fun hHeld => ?_)
          clear hKc Kc
          try simp only [Act.put, List.setIfInBounds_toArray, List.set_cons_zero, List.set_cons_succ]
          refine wpAnyH_ready (rs := [10]) (by kernel_rfl) (by simp) (AllReadyH.cons (o := ⟨none, _, _, _, _, _⟩) rfl (fun Kc hKc => ?_) AllReadyH.nil)
          rw [if_pos (by rfl)]
          refine step_store_any 23 _ _ rfl (w.heap.size + 2) 9 25 _ [.slice A2 p.opts.length c2] _ rfl rfl rfl K1.out info_bs (by show 9 + 1 ≤ 11; omega) (by simp [Value.oneCell']) ?_; intro w4 hb4 ho4; have K4 := Go.Lib.hid hb4; clear hb4
          refine hKc.out _ _ (hHeld.trans (ho4.below (by omega))) (fun hHeld => ?_)
          clear hKc Kc
          try simp only [Act.put, List.setIfInBounds_toArray, List.set_cons_zero, List.set_cons_succ]
          refine wpAnyH_take (i := 11) (oi := ⟨some 47, _, _, _, _, _⟩) (v := ?_) rfl (by kernel_rfl) (by kernel_rfl) (by kernel_rfl) (fun _ _ _ h => h) (Or.inl ⟨by rfl, ?_⟩) (by assumption) ?_
          rotate_left
          · intro w hSw; (try dsimp only at hSw); go_simp; (try with_reducible rfl)
          try simp only [Act.put, List.setIfInBounds_toArray, List.set_cons_zero, List.set_cons_succ]
          refine wpAnyH_ready (rs := [12]) (by kernel_rfl) (by simp) (AllReadyH.cons (o := ⟨none, _, _, _, _, _⟩) rfl (fun Kc hKc => ?_) AllReadyH.nil)
          rw [if_pos (by rfl)]
          refine step_store_any 23 _ _ rfl (w.heap.size + 2) 10 25 _ [.slice A3 (T - F) c3] _ rfl rfl rfl K4.out info_bs (by show 10 + 1 ≤ 11; omega) (by simp [Value.oneCell']) ?_; intro w5 hb5 ho5; have K5 : Hid (Bxo w5 (w.heap.size + 2) 25 (pkL x A2 c2 A3 c3)) := Go.Lib.hid (by rw [HX.out]; exact hb5); clear hb5
          refine hKc.out _ _ (hHeld.trans (ho5.below (by omega))) (fun hHeld => ?_)
          clear hKc Kc
          try simp only [Act.put, List.setIfInBounds_toArray, List.set_cons_zero, List.set_cons_succ]
          refine wpAnyH_done (by kernel_rfl) ?_ _
          have y5 := Go.Lib.hid hHeld
          have KZ := Go.Lib.hid ((K2.out.only ho4 (by omega)).only ho5 (by omega))
          have z2 := y2.size
          have z3 := y3.size
          have LT2 := Go.Lib.hid (fun b h => Nat.lt_of_lt_of_le (HLT.out b h) z2)
          have HO5 := Go.Lib.hid (((HB2.out.call y3 LT2.out).only ho4 (by omega) HN3.out).only ho5 (by omega) HN3.out)
          have HB5 := Go.Lib.hid (((HB3.out.wide z2).only ho4 (by omega) HN3.out).only ho5 (by omega) HN3.out)
          clear hHeld
          go_wp2_with (first
            | (refine wpList_load_box rfl 25 _ rfl (w.heap.size + 2) rfl (pkL x A2 c2 A3 c3) _ K5.out Try.underlying25 rfl info_pk ?_)
            | (refine wpList_store_whole rfl 25 _ _ rfl (w.heap.size + 1) _ (pkL x A2 c2 A3 c3) rfl rfl KZ.out info_pk rfl (by simp [Value.oneCell']) ?_; intro w6 hb6 ho6; have K6 := Go.Lib.hid hb6; clear hb6))
          have y6 := y5.out.trans (ho6.below (show w.heap.size ≤ w.heap.size + 1 by omega))
          exact bodyPost_ret (v := .agg (pkL x A2 c2 A3 c3).toArray) (results_cell_row rfl _ _ (w.heap.size + 1) 25 _ _ _ rfl K6.out Try.underlying25 rfl info_pk) rfl ⟨A2, c2, A3, c3, rfl, HE.out A2 c2 A3 c3 w6 ((HO5.out.only ho6 (by omega) HN2.out).wide (by omega)) ((HB5.out.only ho6 (by omega) HN2.out).wide (by omega)) (grow_lt HV.out y6.size), y6⟩
        ·
          go_simp
          refine hKc.out _ _ (hHeld) (fun hHeld => ?_)
          clear hKc Kc
          try simp only [Act.put, List.setIfInBounds_toArray, List.set_cons_zero, List.set_cons_succ]
          refine wpAnyH_take (i := 7) (oi := ⟨some 44, _, _, _, _, _⟩) (v := ?_) rfl (by kernel_rfl) (by kernel_rfl) (by kernel_rfl) (fun _ _ _ h => h) (Or.inl ⟨by rfl, ?_⟩) (by assumption) ?_
          rotate_left
          · intro w hSw; (try dsimp only at hSw); go_simp; (try with_reducible rfl)
          try simp only [Act.put, List.setIfInBounds_toArray, List.set_cons_zero, List.set_cons_succ]
          refine wpAnyH_ready (rs := [2]) (by kernel_rfl) (by simp) (AllReadyH.cons (o := ⟨some 39, _, _, _, _, _⟩) rfl (fun Kc hKc => ?_) AllReadyH.nil)
          go_simp
          go_at_call 40; refine (ccloneV Ao _ co p.opts W6 V rfl HO.out HLT.out ho).mono ?_; rintro e w2 ⟨A2, c2, rfl, hb2, hf2, y2⟩; have HB2 := Go.Lib.hid hb2; have c10' := (X6.out.keep y2 l3).cell 10 rfl; dsimp only
          refine hKc.out _ _ (hHeld.trans (y2.mono hHeld.size)) (fun hHeld => ?_)
          clear hKc Kc
          try simp only [Act.put, List.setIfInBounds_toArray, List.set_cons_zero, List.set_cons_succ]
          refine wpAnyH_take (i := 9) (oi := ⟨some 46, _, _, _, _, _⟩) (v := ?_) rfl (by kernel_rfl) (by kernel_rfl) (by kernel_rfl) (fun _ _ _ h => h) (Or.inl ⟨by rfl, ?_⟩) (by assumption) ?_
          rotate_left
          · intro w hSw; (try dsimp only at hSw); go_simp; (try with_reducible rfl)
          try simp only [Act.put, List.setIfInBounds_toArray, List.set_cons_zero, List.set_cons_succ]
          refine wpAnyH_ready (rs := [8]) (by kernel_rfl) (by simp) (AllReadyH.cons (o := ⟨some 45, _, _, _, _, _⟩) rfl (fun Kc hKc => ?_) AllReadyH.nil)
          go_simp
          go_at_call 40; refine (ccloneV A7 _ (cb - F) b7 w2 V HL7.out (H7.out.keep (KeepV.of y2 HLT.out)) (fun b h => Nat.lt_of_lt_of_le (HLT.out b h) y2.size) (by omega)).mono ?_; rintro e w3 ⟨A3, c3, rfl, hb3, hf3, y3⟩; have HB3 := Go.Lib.hid hb3; have K1 := Go.Lib.hid ((X6.out.keep y2 l3).keep y3 (Nat.lt_of_lt_of_le l3 y2.size)); have K2 := Go.Lib.hid ((Z6.out.keep y2 l2).keep y3 (Nat.lt_of_lt_of_le l2 y2.size)); dsimp only
          refine hKc.out _ _ (hHeld.trans (y3.mono hHeld.size)) (fun hHeld => ?_)
          clear hKc Kc
          try simp only [Act.put, List.setIfInBounds_toArray, List.set_cons_zero, List.set_cons_succ]
          refine wpAnyH_ready (rs := [10]) (by kernel_rfl) (by simp) (AllReadyH.cons (o := ⟨none, _, _, _, _, _⟩) rfl (fun Kc hKc => ?_) AllReadyH.nil)
          rw [if_pos (by rfl)]
          refine step_store_any 23 _ _ rfl (w.heap.size + 2) 9 25 _ [.slice A2 p.opts.length c2] _ rfl rfl rfl K1.out info_bs (by show 9 + 1 ≤ 11; omega) (by simp [Value.oneCell']) ?_; intro w4 hb4 ho4; have K4 := Go.Lib.hid hb4; clear hb4
          refine hKc.out _ _ (hHeld.trans (ho4.below (by omega))) (fun hHeld => ?_)
          clear hKc Kc
          try simp only [Act.put, List.setIfInBounds_toArray, List.set_cons_zero, List.set_cons_succ]
          refine wpAnyH_take (i := 11) (oi := ⟨some 47, _, _, _, _, _⟩) (v := ?_) rfl (by kernel_rfl) (by kernel_rfl) (by kernel_rfl) (fun _ _ _ h => h) (Or.inl ⟨by rfl, ?_⟩) (by assumption) ?_
          rotate_left
          · intro w hSw; (try dsimp only at hSw); go_simp; (try with_reducible rfl)
          try simp only [Act.put, List.setIfInBounds_toArray, List.set_cons_zero, List.set_cons_succ]
          refine wpAnyH_ready (rs := [12]) (by kernel_rfl) (by simp) (AllReadyH.cons (o := ⟨none, _, _, _, _, _⟩) rfl (fun Kc hKc => ?_) AllReadyH.nil)
          rw [if_pos (by rfl)]
          refine step_store_any 23 _ _ rfl (w.heap.size + 2) 10 25 _ [.slice A3 (T - F) c3] _ rfl rfl rfl K4.out info_bs (by show 10 + 1 ≤ 11; omega) (by simp [Value.oneCell']) ?_; intro w5 hb5 ho5; have K5 : Hid (Bxo w5 (w.heap.size + 2) 25 (pkL x A2 c2 A3 c3)) := Go.Lib.hid (by rw [HX.out]; exact hb5); clear hb5
          refine hKc.out _ _ (hHeld.trans (ho5.below (by omega))) (fun hHeld => ?_)
          clear hKc Kc
          try simp only [Act.put, List.setIfInBounds_toArray, List.set_cons_zero, List.set_cons_succ]
          refine wpAnyH_done (by kernel_rfl) ?_ _
          have y5 := Go.Lib.hid hHeld
          have KZ := Go.Lib.hid ((K2.out.only ho4 (by omega)).only ho5 (by omega))
          have z2 := y2.size
          have z3 := y3.size
          have LT2 := Go.Lib.hid (fun b h => Nat.lt_of_lt_of_le (HLT.out b h) z2)
          have HO5 := Go.Lib.hid (((HB2.out.call y3 LT2.out).only ho4 (by omega) HN3.out).only ho5 (by omega) HN3.out)
          have HB5 := Go.Lib.hid (((HB3.out.wide z2).only ho4 (by omega) HN3.out).only ho5 (by omega) HN3.out)
          clear hHeld
          go_wp2_with (first
            | (refine wpList_load_box rfl 25 _ rfl (w.heap.size + 2) rfl (pkL x A2 c2 A3 c3) _ K5.out Try.underlying25 rfl info_pk ?_)
            | (refine wpList_store_whole rfl 25 _ _ rfl (w.heap.size + 1) _ (pkL x A2 c2 A3 c3) rfl rfl KZ.out info_pk rfl (by simp [Value.oneCell']) ?_; intro w6 hb6 ho6; have K6 := Go.Lib.hid hb6; clear hb6))
          have y6 := y5.out.trans (ho6.below (show w.heap.size ≤ w.heap.size + 1 by omega))
          exact bodyPost_ret (v := .agg (pkL x A2 c2 A3 c3).toArray) (results_cell_row rfl _ _ (w.heap.size + 1) 25 _ _ _ rfl K6.out Try.underlying25 rfl info_pk) rfl ⟨A2, c2, A3, c3, rfl, HE.out A2 c2 A3 c3 w6 ((HO5.out.only ho6 (by omega) HN2.out).wide (by omega)) ((HB5.out.only ho6 (by omega) HN2.out).wide (by omega)) (grow_lt HV.out y6.size), y6⟩
      ·
        go_simp
        refine hKc.out _ _ (hHeld) (fun hHeld => ?_)
        clear hKc Kc
        try simp only [Act.put, List.setIfInBounds_toArray, List.set_cons_zero, List.set_cons_succ]
        refine wpAnyH_take (i := 7) (oi := ⟨some 44, _, _, _, _, _⟩) (v := ?_) rfl (by kernel_rfl) (by kernel_rfl) (by kernel_rfl) (fun _ _ _ h => h) (Or.inl ⟨by rfl, ?_⟩) (by assumption) ?_
        rotate_left
        · intro w hSw; (try dsimp only at hSw); go_simp; (try with_reducible rfl)
        try simp only [Act.put, List.setIfInBounds_toArray, List.set_cons_zero, List.set_cons_succ]
        refine wpAnyH_ready (rs := [1]) (by kernel_rfl) (by simp) (AllReadyH.cons (o := ⟨some 38, _, _, _, _, _⟩) rfl (fun Kc hKc => ?_) AllReadyH.nil)
        go_simp
        refine hKc.out _ _ (hHeld) (fun hHeld => ?_)
        clear hKc Kc
        try simp only [Act.put, List.setIfInBounds_toArray, List.set_cons_zero, List.set_cons_succ]
        refine wpAnyH_ready (rs := [2]) (by kernel_rfl) (by simp) (AllReadyH.cons (o := ⟨some 39, _, _, _, _, _⟩) rfl (fun Kc hKc => ?_) AllReadyH.nil)
        go_simp
        go_at_call 40; refine (ccloneV Ao _ co p.opts W6 V rfl HO.out HLT.out ho).mono ?_; rintro e w2 ⟨A2, c2, rfl, hb2, hf2, y2⟩; have HB2 := Go.Lib.hid hb2; have c10' := (X6.out.keep y2 l3).cell 10 rfl; dsimp only
        refine hKc.out _ _ (hHeld.trans (y2.mono hHeld.size)) (fun hHeld => ?_)
        clear hKc Kc
        try simp only [Act.put, List.setIfInBounds_toArray, List.set_cons_zero, List.set_cons_succ]
        refine wpAnyH_take (i := 9) (oi := ⟨some 46, _, _, _, _, _⟩) (v := ?_) rfl (by kernel_rfl) (by kernel_rfl) (by kernel_rfl) (fun _ _ _ h => h) (Or.inl ⟨by rfl, ?_⟩) (by assumption) ?_
        rotate_left
        · intro w hSw; (try dsimp only at hSw); go_simp; (try with_reducible rfl)
        try simp only [Act.put, List.setIfInBounds_toArray, List.set_cons_zero, List.set_cons_succ]
        refine wpAnyH_ready (rs := [8]) (by kernel_rfl) (by simp) (AllReadyH.cons (o := ⟨some 45, _, _, _, _, _⟩) rfl (fun Kc hKc => ?_) AllReadyH.nil)
        go_simp
        go_at_call 40; refine (ccloneV A7 _ (cb - F) b7 w2 V HL7.out (H7.out.keep (KeepV.of y2 HLT.out)) (fun b h => Nat.lt_of_lt_of_le (HLT.out b h) y2.size) (by omega)).mono ?_; rintro e w3 ⟨A3, c3, rfl, hb3, hf3, y3⟩; have HB3 := Go.Lib.hid hb3; have K1 := Go.Lib.hid ((X6.out.keep y2 l3).keep y3 (Nat.lt_of_lt_of_le l3 y2.size)); have K2 := Go.Lib.hid ((Z6.out.keep y2 l2).keep y3 (Nat.lt_of_lt_of_le l2 y2.size)); dsimp only
        refine hKc.out _ _ (hHeld.trans (y3.mono hHeld.size)) (fun hHeld => ?_)
        clear hKc Kc
        try simp only [Act.put, List.setIfInBounds_toArray, List.set_cons_zero, List.set_cons_succ]
        refine wpAnyH_ready (rs := [10]) (by kernel_rfl) (by simp) (AllReadyH.cons (o := ⟨none, _, _, _, _, _⟩) rfl (fun Kc hKc => ?_) AllReadyH.nil)
        rw [if_pos (by rfl)]
        refine step_store_any 23 _ _ rfl (w.heap.size + 2) 9 25 _ [.slice A2 p.opts.length c2] _ rfl rfl rfl K1.out info_bs (by show 9 + 1 ≤ 11; omega) (by simp [Value.oneCell']) ?_; intro w4 hb4 ho4; have K4 := Go.Lib.hid hb4; clear hb4
        refine hKc.out _ _ (hHeld.trans (ho4.below (by omega))) (fun hHeld => ?_)
        clear hKc Kc
        try simp only [Act.put, List.setIfInBounds_toArray, List.set_cons_zero, List.set_cons_succ]
        refine wpAnyH_take (i := 11) (oi := ⟨some 47, _, _, _, _, _⟩) (v := ?_) rfl (by kernel_rfl) (by kernel_rfl) (by kernel_rfl) (fun _ _ _ h => h) (Or.inl ⟨by rfl, ?_⟩) (by assumption) ?_
        rotate_left
        · intro w hSw; (try dsimp only at hSw); go_simp; (try with_reducible rfl)
        try simp only [Act.put, List.setIfInBounds_toArray, List.set_cons_zero, List.set_cons_succ]
        refine wpAnyH_ready (rs := [12]) (by kernel_rfl) (by simp) (AllReadyH.cons (o := ⟨none, _, _, _, _, _⟩) rfl (fun Kc hKc => ?_) AllReadyH.nil)
        rw [if_pos (by rfl)]
        refine step_store_any 23 _ _ rfl (w.heap.size + 2) 10 25 _ [.slice A3 (T - F) c3] _ rfl rfl rfl K4.out info_bs (by show 10 + 1 ≤ 11; omega) (by simp [Value.oneCell']) ?_; intro w5 hb5 ho5; have K5 : Hid (Bxo w5 (w.heap.size + 2) 25 (pkL x A2 c2 A3 c3)) := Go.Lib.hid (by rw [HX.out]; exact hb5); clear hb5
        refine hKc.out _ _ (hHeld.trans (ho5.below (by omega))) (fun hHeld => ?_)
        clear hKc Kc
        try simp only [Act.put, List.setIfInBounds_toArray, List.set_cons_zero, List.set_cons_succ]
        refine wpAnyH_done (by kernel_rfl) ?_ _
        have y5 := Go.Lib.hid hHeld
        have KZ := Go.Lib.hid ((K2.out.only ho4 (by omega)).only ho5 (by omega))
        have z2 := y2.size
        have z3 := y3.size
        have LT2 := Go.Lib.hid (fun b h => Nat.lt_of_lt_of_le (HLT.out b h) z2)
        have HO5 := Go.Lib.hid (((HB2.out.call y3 LT2.out).only ho4 (by omega) HN3.out).only ho5 (by omega) HN3.out)
        have HB5 := Go.Lib.hid (((HB3.out.wide z2).only ho4 (by omega) HN3.out).only ho5 (by omega) HN3.out)
        clear hHeld
        go_wp2_with (first
          | (refine wpList_load_box rfl 25 _ rfl (w.heap.size + 2) rfl (pkL x A2 c2 A3 c3) _ K5.out Try.underlying25 rfl info_pk ?_)
          | (refine wpList_store_whole rfl 25 _ _ rfl (w.heap.size + 1) _ (pkL x A2 c2 A3 c3) rfl rfl KZ.out info_pk rfl (by simp [Value.oneCell']) ?_; intro w6 hb6 ho6; have K6 := Go.Lib.hid hb6; clear hb6))
        have y6 := y5.out.trans (ho6.below (show w.heap.size ≤ w.heap.size + 1 by omega))
        exact bodyPost_ret (v := .agg (pkL x A2 c2 A3 c3).toArray) (results_cell_row rfl _ _ (w.heap.size + 1) 25 _ _ _ rfl K6.out Try.underlying25 rfl info_pk) rfl ⟨A2, c2, A3, c3, rfl, HE.out A2 c2 A3 c3 w6 ((HO5.out.only ho6 (by omega) HN2.out).wide (by omega)) ((HB5.out.only ho6 (by omega) HN2.out).wide (by omega)) (grow_lt HV.out y6.size), y6⟩
end Go.Proofs.Ytmblkgnjcmneeaa
