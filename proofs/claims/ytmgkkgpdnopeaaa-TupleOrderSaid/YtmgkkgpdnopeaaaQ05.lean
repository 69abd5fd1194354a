/- Lemmas, several texts in one. -/
import Derived.Deep.RegionHeld3
import Derived.Test.YtmgkkgpdnopeaaaQ03
/- Statements of layer 9, walked: right tuples stand in one order. -/
namespace Go.Proofs.Ytmgkkgpdnopeaaa
open Go.ChangeShapes Go.WideShapes Go.ChangeAt Go.RowKit
set_option linter.unusedVariables false
set_option linter.unusedSimpArgs false

set_option maxRecDepth 100000 in
set_option maxHeartbeats 8000000 in
theorem tupleOrder (kA0 : AwakeC9) (kR0 : RightC9) (kL0 : LessC9) (a b c : Tp) (ra0 : RngTp a) (rb0 : RngTp b) (rc0 : RngTp c) (w : World) :
    Calls Try.prog 5 #[tpV a, tpV b, tpV c] w fun e w' => e = .returned (.bool true) ∧ Below w.heap.size w w' := by
  have kA := Go.Lib.hid kA0
  have kR := Go.Lib.hid kR0
  have kL := Go.Lib.hid kL0
  have ra := Go.Lib.hid ra0
  have rb := Go.Lib.hid rb0
  have rc := Go.Lib.hid rc0
  obtain ⟨pa, qa0⟩ : ∃ x, rightT a = x := ⟨_, rfl⟩
  obtain ⟨pb, qb0⟩ : ∃ x, rightT b = x := ⟨_, rfl⟩
  obtain ⟨pc, qc0⟩ : ∃ x, rightT c = x := ⟨_, rfl⟩
  obtain ⟨x, hx⟩ : ∃ x, lessT a b = x := ⟨_, rfl⟩
  obtain ⟨y, hy⟩ : ∃ x, lessT b a = x := ⟨_, rfl⟩
  obtain ⟨z, hz⟩ : ∃ x, lessT b c = x := ⟨_, rfl⟩
  obtain ⟨u, hu⟩ : ∃ x, lessT a c = x := ⟨_, rfl⟩
  have qa := Go.Lib.hid qa0
  have qb := Go.Lib.hid qb0
  have qc := Go.Lib.hid qc0
  have hab := Go.Lib.hid hx
  have hba := Go.Lib.hid hy
  have hbc := Go.Lib.hid hz
  have hac := Go.Lib.hid hu
  have x0 : Below w.heap.size w (((w.alloc (oTp a)).alloc (oTp b)).alloc (oTp c)) := below_alloc (below_alloc (below_alloc (Below.refl _ _) (Nat.le_refl _) _) (by simp) _) (by simp; omega) _
  have h1 := ((Bxo.made w 27 (tpL a)).alloc (oTp b)).alloc (oTp c)
  have h2 : Bxo (((w.alloc (oTp a)).alloc (oTp b)).alloc (oTp c)) (w.heap.size + 1) 27 (tpL b) := by
    have := (Bxo.made (w.alloc (oTp a)) 27 (tpL b)).alloc (oTp c)
    simpa using this
  have h3 : Bxo (((w.alloc (oTp a)).alloc (oTp b)).alloc (oTp c)) (w.heap.size + 2) 27 (tpL c) := by
    have := Bxo.made ((w.alloc (oTp a)).alloc (oTp b)) 27 (tpL c)
    simpa using this
  clear kA0 kR0 kL0 ra0 rb0 rc0 qa0 qb0 qc0 hx hy hz hu
  go_enter Try.func5, Try.ntmps5
  go_upto_region 1 with fail
  generalize ((w.alloc (oTp a)).alloc (oTp b)).alloc (oTp c) = W at *
  have HA := Go.Lib.hid h1
  have HB := Go.Lib.hid h2
  have HC := Go.Lib.hid h3
  clear h1 h2 h3
  cases pa
  · go_wp2_with (first
      | (refine wpList_load_box rfl 27 _ rfl w.heap.size rfl (tpL a) _ HA.out Try.underlying27 rfl info_tp ?_)
      | (go_at_call 7; refine (kA.out _).mono ?_; rintro e w1 ⟨rfl, y1⟩; have HA := Go.Lib.hid (HA.out.keep y1 HA.out.lt); have HB := Go.Lib.hid (HB.out.keep y1 HB.out.lt); have HC := Go.Lib.hid (HC.out.keep y1 HC.out.lt); have x1 := x0.trans (y1.mono x0.size); dsimp only)
      | (go_at_call_of 13 (Value.agg (tpL a).toArray); refine (kR.out a _ false qa.out ra.out).mono ?_; rintro e wa ⟨rfl, ya⟩; have HA := Go.Lib.hid (HA.out.keep ya HA.out.lt); have HB := Go.Lib.hid (HB.out.keep ya HB.out.lt); have HC := Go.Lib.hid (HC.out.keep ya HC.out.lt); have xa := x1.trans (ya.mono x1.size); dsimp only))
    go_ret
    exact ⟨rfl, xa⟩
  · cases pb
    · go_wp2_with (first
        | (refine wpList_load_box rfl 27 _ rfl w.heap.size rfl (tpL a) _ HA.out Try.underlying27 rfl info_tp ?_)
        | (refine wpList_load_box rfl 27 _ rfl (w.heap.size + 1) rfl (tpL b) _ HB.out Try.underlying27 rfl info_tp ?_)
        | (go_at_call 7; refine (kA.out _).mono ?_; rintro e w1 ⟨rfl, y1⟩; have HA := Go.Lib.hid (HA.out.keep y1 HA.out.lt); have HB := Go.Lib.hid (HB.out.keep y1 HB.out.lt); have HC := Go.Lib.hid (HC.out.keep y1 HC.out.lt); have x1 := x0.trans (y1.mono x0.size); dsimp only)
        | (go_at_call_of 13 (Value.agg (tpL a).toArray); refine (kR.out a _ true qa.out ra.out).mono ?_; rintro e wa ⟨rfl, ya⟩; have HA := Go.Lib.hid (HA.out.keep ya HA.out.lt); have HB := Go.Lib.hid (HB.out.keep ya HB.out.lt); have HC := Go.Lib.hid (HC.out.keep ya HC.out.lt); have xa := x1.trans (ya.mono x1.size); dsimp only)
        | (go_at_call_of 13 (Value.agg (tpL b).toArray); refine (kR.out b _ false qb.out rb.out).mono ?_; rintro e wb ⟨rfl, yb⟩; have HA := Go.Lib.hid (HA.out.keep yb HA.out.lt); have HB := Go.Lib.hid (HB.out.keep yb HB.out.lt); have HC := Go.Lib.hid (HC.out.keep yb HC.out.lt); have xb := xa.trans (yb.mono xa.size); dsimp only))
      go_ret
      exact ⟨rfl, xb⟩
    · cases pc
      · go_wp2_with (first
          | (refine wpList_load_box rfl 27 _ rfl w.heap.size rfl (tpL a) _ HA.out Try.underlying27 rfl info_tp ?_)
          | (refine wpList_load_box rfl 27 _ rfl (w.heap.size + 1) rfl (tpL b) _ HB.out Try.underlying27 rfl info_tp ?_)
          | (refine wpList_load_box rfl 27 _ rfl (w.heap.size + 2) rfl (tpL c) _ HC.out Try.underlying27 rfl info_tp ?_)
          | (go_at_call 7; refine (kA.out _).mono ?_; rintro e w1 ⟨rfl, y1⟩; have HA := Go.Lib.hid (HA.out.keep y1 HA.out.lt); have HB := Go.Lib.hid (HB.out.keep y1 HB.out.lt); have HC := Go.Lib.hid (HC.out.keep y1 HC.out.lt); have x1 := x0.trans (y1.mono x0.size); dsimp only)
          | (go_at_call_of 13 (Value.agg (tpL a).toArray); refine (kR.out a _ true qa.out ra.out).mono ?_; rintro e wa ⟨rfl, ya⟩; have HA := Go.Lib.hid (HA.out.keep ya HA.out.lt); have HB := Go.Lib.hid (HB.out.keep ya HB.out.lt); have HC := Go.Lib.hid (HC.out.keep ya HC.out.lt); have xa := x1.trans (ya.mono x1.size); dsimp only)
          | (go_at_call_of 13 (Value.agg (tpL b).toArray); refine (kR.out b _ true qb.out rb.out).mono ?_; rintro e wb ⟨rfl, yb⟩; have HA := Go.Lib.hid (HA.out.keep yb HA.out.lt); have HB := Go.Lib.hid (HB.out.keep yb HB.out.lt); have HC := Go.Lib.hid (HC.out.keep yb HC.out.lt); have xb := xa.trans (yb.mono xa.size); dsimp only)
          | (go_at_call_of 13 (Value.agg (tpL c).toArray); refine (kR.out c _ false qc.out rc.out).mono ?_; rintro e wc ⟨rfl, yc⟩; have HA := Go.Lib.hid (HA.out.keep yc HA.out.lt); have HB := Go.Lib.hid (HB.out.keep yc HB.out.lt); have HC := Go.Lib.hid (HC.out.keep yc HC.out.lt); have xc := xb.trans (yc.mono xb.size); dsimp only))
        go_ret
        exact ⟨rfl, xc⟩
      · go_upto_region 5 with (first
          | (refine wpList_load_box rfl 27 _ rfl w.heap.size rfl (tpL a) _ HA.out Try.underlying27 rfl info_tp ?_)
          | (refine wpList_load_box rfl 27 _ rfl (w.heap.size + 1) rfl (tpL b) _ HB.out Try.underlying27 rfl info_tp ?_)
          | (refine wpList_load_box rfl 27 _ rfl (w.heap.size + 2) rfl (tpL c) _ HC.out Try.underlying27 rfl info_tp ?_)
          | (go_at_call 7; refine (kA.out _).mono ?_; rintro e w1 ⟨rfl, y1⟩; have HA := Go.Lib.hid (HA.out.keep y1 HA.out.lt); have HB := Go.Lib.hid (HB.out.keep y1 HB.out.lt); have HC := Go.Lib.hid (HC.out.keep y1 HC.out.lt); have x1 := x0.trans (y1.mono x0.size); dsimp only)
          | (go_at_call_of 13 (Value.agg (tpL a).toArray); refine (kR.out a _ true qa.out ra.out).mono ?_; rintro e wa ⟨rfl, ya⟩; have HA := Go.Lib.hid (HA.out.keep ya HA.out.lt); have HB := Go.Lib.hid (HB.out.keep ya HB.out.lt); have HC := Go.Lib.hid (HC.out.keep ya HC.out.lt); have xa := x1.trans (ya.mono x1.size); dsimp only)
          | (go_at_call_of 13 (Value.agg (tpL b).toArray); refine (kR.out b _ true qb.out rb.out).mono ?_; rintro e wb ⟨rfl, yb⟩; have HA := Go.Lib.hid (HA.out.keep yb HA.out.lt); have HB := Go.Lib.hid (HB.out.keep yb HB.out.lt); have HC := Go.Lib.hid (HC.out.keep yb HC.out.lt); have xb := xa.trans (yb.mono xa.size); dsimp only)
          | (go_at_call_of 13 (Value.agg (tpL c).toArray); refine (kR.out c _ true qc.out rc.out).mono ?_; rintro e wc ⟨rfl, yc⟩; have HA := Go.Lib.hid (HA.out.keep yc HA.out.lt); have HB := Go.Lib.hid (HB.out.keep yc HB.out.lt); have HC := Go.Lib.hid (HC.out.keep yc HC.out.lt); have xc := xb.trans (yc.mono xb.size); dsimp only))
        have HO := Go.Lib.hid (order_two qa.out qb.out)
        have H3 : Hid (x = true → z = true → u = true) := Go.Lib.hid (fun h1 h2 => by rw [← hac.out]; exact order_three (by rw [hab.out]; exact h1) (by rw [hbc.out]; exact h2))
        have HA0 := HA
        have HB0 := HB
        try simp only [Act.put, List.setIfInBounds_toArray, List.set_cons_zero, List.set_cons_succ]
        refine wp_region_held_drew (S := fun Y => Below wc.heap.size wc Y) (by kernel_rfl) ?_ (fun hHeld => ?_)
        · exact below_drew (Below.refl _ _)
        have zd : wc.drew.heap.size ≤ wc.heap.size := Nat.le_refl _; have zd2 : wc.heap.size ≤ wc.drew.heap.size := Nat.le_refl _
        have HA := Go.Lib.hid (HA.out.drew)
        have HB := Go.Lib.hid (HB.out.drew)
        have HC := Go.Lib.hid (HC.out.drew)
        refine wpAnyH_take (i := 0) (oi := ⟨some 24, _, _, _, _, _⟩) (v := (tpV a)) rfl (by kernel_rfl) (by kernel_rfl) (by kernel_rfl) (fun _ _ _ h => h) (yieldsIf_load_at (by rfl) 27 _ rfl ⟨w.heap.size, 0, none⟩ rfl (tpL a) _ (fun Y h => (HA0.out.keep h HA0.out.lt).at) Try.underlying27 rfl info_tp) (by assumption) ?_
        try simp only [Act.put, List.setIfInBounds_toArray, List.set_cons_zero, List.set_cons_succ]
        refine wpAnyH_take (i := 1) (oi := ⟨some 25, _, _, _, _, _⟩) (v := (tpV b)) rfl (by kernel_rfl) (by kernel_rfl) (by kernel_rfl) (fun _ _ _ h => h) (yieldsIf_load_at (by rfl) 27 _ rfl ⟨w.heap.size + 1, 0, none⟩ rfl (tpL b) _ (fun Y h => (HB0.out.keep h HB0.out.lt).at) Try.underlying27 rfl info_tp) (by assumption) ?_
        try simp only [Act.put, List.setIfInBounds_toArray, List.set_cons_zero, List.set_cons_succ]
        refine wpAnyH_take (i := 3) (oi := ⟨some 27, _, _, _, _, _⟩) (v := (tpV b)) rfl (by kernel_rfl) (by kernel_rfl) (by kernel_rfl) (fun _ _ _ h => h) (yieldsIf_load_at (by rfl) 27 _ rfl ⟨w.heap.size + 1, 0, none⟩ rfl (tpL b) _ (fun Y h => (HB0.out.keep h HB0.out.lt).at) Try.underlying27 rfl info_tp) (by assumption) ?_
        try simp only [Act.put, List.setIfInBounds_toArray, List.set_cons_zero, List.set_cons_succ]
        refine wpAnyH_take (i := 4) (oi := ⟨some 28, _, _, _, _, _⟩) (v := (tpV a)) rfl (by kernel_rfl) (by kernel_rfl) (by kernel_rfl) (fun _ _ _ h => h) (yieldsIf_load_at (by rfl) 27 _ rfl ⟨w.heap.size, 0, none⟩ rfl (tpL a) _ (fun Y h => (HA0.out.keep h HA0.out.lt).at) Try.underlying27 rfl info_tp) (by assumption) ?_
        try simp only [Act.put, List.setIfInBounds_toArray, List.set_cons_zero, List.set_cons_succ]
        refine wpAnyH_ready (rs := [2]) (by kernel_rfl) (by simp) (AllReadyH.cons (o := ⟨some 26, _, _, _, _, _⟩) rfl (fun Kc hKc => ?_) AllReadyH.nil)
        have zhq1 := hHeld.size
        go_simp
        go_at_call 17; refine (kL.out a b wc.drew x hab.out ra.out rb.out).mono ?_; rintro e wq1 ⟨rfl, yq1⟩; dsimp only
        have zq1 := yq1.size
        have HA := Go.Lib.hid (HA.out.keep yq1 HA.out.lt)
        have HB := Go.Lib.hid (HB.out.keep yq1 HB.out.lt)
        have HC := Go.Lib.hid (HC.out.keep yq1 HC.out.lt)
        refine hKc.out _ _ (hHeld.trans (yq1.mono hHeld.size)) (fun hHeld => ?_)
        clear hKc Kc
        try simp only [Act.put, List.setIfInBounds_toArray, List.set_cons_zero, List.set_cons_succ]
        refine wpAnyH_ready (rs := [5]) (by kernel_rfl) (by simp) (AllReadyH.cons (o := ⟨some 29, _, _, _, _, _⟩) rfl (fun Kc hKc => ?_) AllReadyH.nil)
        have zhq2 := hHeld.size
        go_simp
        go_at_call 17; refine (kL.out b a wq1 y hba.out rb.out ra.out).mono ?_; rintro e wq2 ⟨rfl, yq2⟩; dsimp only
        have zq2 := yq2.size
        have HA := Go.Lib.hid (HA.out.keep yq2 HA.out.lt)
        have HB := Go.Lib.hid (HB.out.keep yq2 HB.out.lt)
        have HC := Go.Lib.hid (HC.out.keep yq2 HC.out.lt)
        refine hKc.out _ _ (hHeld.trans (yq2.mono hHeld.size)) (fun hHeld => ?_)
        clear hKc Kc
        try simp only [Act.put, List.setIfInBounds_toArray, List.set_cons_zero, List.set_cons_succ]
        refine wpAnyH_take (i := 6) (oi := ⟨some 7, _, _, _, _, _⟩) (v := ?_) rfl (by kernel_rfl) (by kernel_rfl) (by kernel_rfl) (fun _ _ _ h => h) (Or.inl ⟨by rfl, ?_⟩) (by assumption) ?_
        rotate_left
        · intro w hSw; (try dsimp only at hSw); go_simp; (try with_reducible rfl)
        try simp only [Act.put, List.setIfInBounds_toArray, List.set_cons_zero, List.set_cons_succ]
        refine wpAnyH_take (i := 7) (oi := ⟨some 8, _, _, _, _, _⟩) (v := ?_) rfl (by kernel_rfl) (by kernel_rfl) (by kernel_rfl) (fun _ _ _ h => h) (Or.inl ⟨by rfl, ?_⟩) (by assumption) ?_
        rotate_left
        · intro w hSw; (try dsimp only at hSw); go_simp; (try with_reducible rfl)
        try simp only [Act.put, List.setIfInBounds_toArray, List.set_cons_zero, List.set_cons_succ]
        refine wpAnyH_done (by kernel_rfl) ?_ _
        have xq := xc.trans (hHeld.mono xc.size)
        have HO1 := HO.out
        rw [hab.out, hba.out] at HO1
        obtain ⟨ho1, ho2⟩ := HO1
        clear hHeld
        have en := fun W => neTp a b W
        rw [← ho2] at en
        clear ho2
        cases x
        · cases y
          · go_wp2_with (first
              | (refine wpList_load_box rfl 27 _ rfl w.heap.size rfl (tpL a) _ HA.out Try.underlying27 rfl info_tp ?_)
              | (refine wpList_load_box rfl 27 _ rfl (w.heap.size + 1) rfl (tpL b) _ HB.out Try.underlying27 rfl info_tp ?_))
            go_ret
            exact ⟨rfl, xq⟩
          · go_wp2_with (first
              | (refine wpList_load_box rfl 27 _ rfl w.heap.size rfl (tpL a) _ HA.out Try.underlying27 rfl info_tp ?_)
              | (refine wpList_load_box rfl 27 _ rfl (w.heap.size + 1) rfl (tpL b) _ HB.out Try.underlying27 rfl info_tp ?_))
            go_ret
            exact ⟨rfl, xq⟩
        · cases y
          · cases z
            · go_wp2_with (first
                | (refine wpList_load_box rfl 27 _ rfl w.heap.size rfl (tpL a) _ HA.out Try.underlying27 rfl info_tp ?_)
                | (refine wpList_load_box rfl 27 _ rfl (w.heap.size + 1) rfl (tpL b) _ HB.out Try.underlying27 rfl info_tp ?_)
                | (refine wpList_load_box rfl 27 _ rfl (w.heap.size + 2) rfl (tpL c) _ HC.out Try.underlying27 rfl info_tp ?_)
                | (go_at_call_of 17 (Value.agg (tpL b).toArray); refine (kL.out b c _ _ hbc.out rb.out rc.out).mono ?_; rintro e wz ⟨rfl, ywz⟩; have HA := Go.Lib.hid (HA.out.keep ywz HA.out.lt); have HB := Go.Lib.hid (HB.out.keep ywz HB.out.lt); have HC := Go.Lib.hid (HC.out.keep ywz HC.out.lt); have xwz := xq.trans (ywz.mono xq.size); dsimp only))
              go_ret
              exact ⟨rfl, xwz⟩
            · obtain rfl : u = true := H3.out rfl rfl
              go_wp2_with (first
                | (refine wpList_load_box rfl 27 _ rfl w.heap.size rfl (tpL a) _ HA.out Try.underlying27 rfl info_tp ?_)
                | (refine wpList_load_box rfl 27 _ rfl (w.heap.size + 1) rfl (tpL b) _ HB.out Try.underlying27 rfl info_tp ?_)
                | (refine wpList_load_box rfl 27 _ rfl (w.heap.size + 2) rfl (tpL c) _ HC.out Try.underlying27 rfl info_tp ?_)
                | (go_at_call_of 17 (Value.agg (tpL b).toArray); refine (kL.out b c _ _ hbc.out rb.out rc.out).mono ?_; rintro e wz ⟨rfl, ywz⟩; have HA := Go.Lib.hid (HA.out.keep ywz HA.out.lt); have HB := Go.Lib.hid (HB.out.keep ywz HB.out.lt); have HC := Go.Lib.hid (HC.out.keep ywz HC.out.lt); have xwz := xq.trans (ywz.mono xq.size); dsimp only)
                | (go_at_call_of 17 (Value.agg (tpL a).toArray); refine (kL.out a c _ true hac.out ra.out rc.out).mono ?_; rintro e wu ⟨rfl, ywu⟩; have HA := Go.Lib.hid (HA.out.keep ywu HA.out.lt); have HB := Go.Lib.hid (HB.out.keep ywu HB.out.lt); have HC := Go.Lib.hid (HC.out.keep ywu HC.out.lt); have xwu := xwz.trans (ywu.mono xwz.size); dsimp only))
              go_ret
              exact ⟨rfl, xwu⟩
          · cases ho1
end Go.Proofs.Ytmgkkgpdnopeaaa
