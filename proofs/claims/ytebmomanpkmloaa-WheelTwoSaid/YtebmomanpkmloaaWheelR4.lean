/- Contracts of the document's own answers for package wheel: Set. -/
import Derived.Test.YtebmomanpkmloaaWheelR3
namespace Go.Proofs.Ytebmomanpkmloaa
open Go.ChangeShapes Go.WideShapes Go.ChangeAt Go.RowKit
set_option linter.unusedVariables false
set_option linter.unusedSimpArgs false

set_option maxRecDepth 100000 in
set_option maxHeartbeats 16000000 in
theorem rset11 (x : Wh) (A : Option Addr) (c : Nat) (n t : Int) (w : World) (h : AlAt w x.list A c) (hbig : x.list.length ≤ 65536) (q : Wh × Int) (hq : setH x n t = q) :
    Calls Try.prog 9 #[whV x A c, .int .i64 n, .int .i64 t] w (WhPost2 w A q) := by
  have y0 : Below w.heap.size w ((w.alloc (oWh x A c)).alloc (oWh wh0 none 0)) := below_alloc (below_alloc (Below.refl _ _) (Nat.le_refl _) _) (by simp) _
  have h1 := (Bxo.made w 28 (whL x A c)).alloc (oWh wh0 none 0)
  have h2 : Bxo ((w.alloc (oWh x A c)).alloc (oWh wh0 none 0)) (w.heap.size + 1) 28 (whL wh0 none 0) := by
    have := Bxo.made (w.alloc (oWh x A c)) 28 (whL wh0 none 0)
    simpa using this
  have HC := Go.Lib.hid (h.at y0)
  have HA := Go.Lib.hid h
  clear h
  obtain ⟨i0_, hi_, hz0, hz1, hz2⟩ := info_parts info_alz
  go_enter Try.func9, Try.ntmps9
  go_upto_region 1 with fail
  generalize ((w.alloc (oWh x A c)).alloc (oWh wh0 none 0)) = W at *
  have HB := Go.Lib.hid h1
  have HZ := Go.Lib.hid h2
  clear h1 h2
  by_cases h0 : n < 0
  · have HQ : Hid (q = (x, 1)) := Go.Lib.hid (by rw [← hq]; unfold setH; rw [if_pos (by omega)])
    clear hq
    go_wp2_with (first
      | (refine wpList_load_box rfl 28 _ rfl w.heap.size rfl (whL x A c) _ HB.out Try.underlying28 rfl info_wh ?_)
      | (refine wpList_store_any rfl 28 _ _ rfl (w.heap.size + 1) 0 28 _ (whL x A c) _ rfl rfl rfl HZ.out info_wh (by show 0 + 2 ≤ 2; omega) (by simp [Value.oneCell']) ?_; intro wF hbF hoF; have HBF := Go.Lib.hid hbF; clear hbF))
    have xF := y0.trans (hoF.below (show w.heap.size ≤ w.heap.size + 1 by omega))
    exact bodyPost_ret (v := .tuple #[.agg (whL x A c).toArray, .int .i64 1]) (results_ct11 (p := 6) (u := 7) rfl _ _ (w.heap.size + 1) _ _ rfl HBF.out Try.underlying28 rfl info_wh) rfl ⟨A, c, by rw [HQ.out], by rw [HQ.out]; exact HA.out.at xF, xF, .inl rfl⟩
  · by_cases h1 : 2147483647 < n
    · have HQ : Hid (q = (x, 1)) := Go.Lib.hid (by rw [← hq]; unfold setH; rw [if_pos (by omega)])
      clear hq
      go_wp2_with (first
        | (refine wpList_load_box rfl 28 _ rfl w.heap.size rfl (whL x A c) _ HB.out Try.underlying28 rfl info_wh ?_)
        | (refine wpList_store_any rfl 28 _ _ rfl (w.heap.size + 1) 0 28 _ (whL x A c) _ rfl rfl rfl HZ.out info_wh (by show 0 + 2 ≤ 2; omega) (by simp [Value.oneCell']) ?_; intro wF hbF hoF; have HBF := Go.Lib.hid hbF; clear hbF))
      have xF := y0.trans (hoF.below (show w.heap.size ≤ w.heap.size + 1 by omega))
      exact bodyPost_ret (v := .tuple #[.agg (whL x A c).toArray, .int .i64 1]) (results_ct11 (p := 6) (u := 7) rfl _ _ (w.heap.size + 1) _ _ rfl HBF.out Try.underlying28 rfl info_wh) rfl ⟨A, c, by rw [HQ.out], by rw [HQ.out]; exact HA.out.at xF, xF, .inl rfl⟩
    · by_cases h2 : t < 0
      · have HQ : Hid (q = (x, 1)) := Go.Lib.hid (by rw [← hq]; unfold setH; rw [if_pos (by omega)])
        clear hq
        go_wp2_with (first
          | (refine wpList_load_box rfl 28 _ rfl w.heap.size rfl (whL x A c) _ HB.out Try.underlying28 rfl info_wh ?_)
          | (refine wpList_store_any rfl 28 _ _ rfl (w.heap.size + 1) 0 28 _ (whL x A c) _ rfl rfl rfl HZ.out info_wh (by show 0 + 2 ≤ 2; omega) (by simp [Value.oneCell']) ?_; intro wF hbF hoF; have HBF := Go.Lib.hid hbF; clear hbF))
        have xF := y0.trans (hoF.below (show w.heap.size ≤ w.heap.size + 1 by omega))
        exact bodyPost_ret (v := .tuple #[.agg (whL x A c).toArray, .int .i64 1]) (results_ct11 (p := 6) (u := 7) rfl _ _ (w.heap.size + 1) _ _ rfl HBF.out Try.underlying28 rfl info_wh) rfl ⟨A, c, by rw [HQ.out], by rw [HQ.out]; exact HA.out.at xF, xF, .inl rfl⟩
      · by_cases h3 : 1099511627776 < t
        · have HQ : Hid (q = (x, 1)) := Go.Lib.hid (by rw [← hq]; unfold setH; rw [if_pos (by omega)])
          clear hq
          go_wp2_with (first
            | (refine wpList_load_box rfl 28 _ rfl w.heap.size rfl (whL x A c) _ HB.out Try.underlying28 rfl info_wh ?_)
            | (refine wpList_store_any rfl 28 _ _ rfl (w.heap.size + 1) 0 28 _ (whL x A c) _ rfl rfl rfl HZ.out info_wh (by show 0 + 2 ≤ 2; omega) (by simp [Value.oneCell']) ?_; intro wF hbF hoF; have HBF := Go.Lib.hid hbF; clear hbF))
          have xF := y0.trans (hoF.below (show w.heap.size ≤ w.heap.size + 1 by omega))
          exact bodyPost_ret (v := .tuple #[.agg (whL x A c).toArray, .int .i64 1]) (results_ct11 (p := 6) (u := 7) rfl _ _ (w.heap.size + 1) _ _ rfl HBF.out Try.underlying28 rfl info_wh) rfl ⟨A, c, by rw [HQ.out], by rw [HQ.out]; exact HA.out.at xF, xF, .inl rfl⟩
        · by_cases h5 : t ≤ x.now
          · have HQ : Hid (q = (x, 14)) := Go.Lib.hid (by rw [← hq]; unfold setH; rw [if_neg (by omega), if_pos h5])
            clear hq
            have c1 := HB.out.cell 1 rfl
            go_wp2_with (first
              | (refine wpList_load_box rfl 28 _ rfl w.heap.size rfl (whL x A c) _ HB.out Try.underlying28 rfl info_wh ?_)
              | (refine wpList_store_any rfl 28 _ _ rfl (w.heap.size + 1) 0 28 _ (whL x A c) _ rfl rfl rfl HZ.out info_wh (by show 0 + 2 ≤ 2; omega) (by simp [Value.oneCell']) ?_; intro wF hbF hoF; have HBF := Go.Lib.hid hbF; clear hbF))
            have xF := y0.trans (hoF.below (show w.heap.size ≤ w.heap.size + 1 by omega))
            exact bodyPost_ret (v := .tuple #[.agg (whL x A c).toArray, .int .i64 14]) (results_ct11 (p := 6) (u := 7) rfl _ _ (w.heap.size + 1) _ _ rfl HBF.out Try.underlying28 rfl info_wh) rfl ⟨A, c, by rw [HQ.out], by rw [HQ.out]; exact HA.out.at xF, xF, .inl rfl⟩
          · have hgd : ¬ (n < 0 ∨ n > 2147483647 ∨ t < 0 ∨ t > 1099511627776) := by omega
            cases hf : findH x.list n
            · have HF := Go.Lib.hid (findI_none hf)
              by_cases h6 : 256 ≤ x.list.length
              · have h6' : (256 : Int) ≤ (x.list.length : Int) := by omega
                have HQ : Hid (q = (x, 8)) := Go.Lib.hid (by rw [← hq]; unfold setH; rw [if_neg hgd, if_neg h5, hf]; dsimp only; rw [if_pos h6])
                clear hq
                clear hf hgd
                have c1 := HB.out.cell 1 rfl
                go_wp2_with (first
                  | (refine wpList_load_box rfl 28 _ rfl w.heap.size rfl (whL x A c) _ HB.out Try.underlying28 rfl info_wh ?_)
                  | (go_at_call 20; refine (rfind11 x A c n W HC.out (-1) HF.out).mono ?_; rintro e w1 ⟨rfl, y1⟩; have x1 := y0.trans (y1.mono y0.size); have HB := Go.Lib.hid (HB.out.keep y1 HB.out.lt); have HZ := Go.Lib.hid (HZ.out.keep y1 HZ.out.lt); have HC := Go.Lib.hid (HC.out.at y1); have c0 := HB.out.cell 0 rfl; dsimp only)
                  | (refine wpList_store_any rfl 28 _ _ rfl (w.heap.size + 1) 0 28 _ (whL x A c) _ rfl rfl rfl HZ.out info_wh (by show 0 + 2 ≤ 2; omega) (by simp [Value.oneCell']) ?_; intro wF hbF hoF; have HBF := Go.Lib.hid hbF; clear hbF))
                have xF := x1.trans (hoF.below (show w.heap.size ≤ w.heap.size + 1 by omega))
                exact bodyPost_ret (v := .tuple #[.agg (whL x A c).toArray, .int .i64 8]) (results_ct11 (p := 6) (u := 7) rfl _ _ (w.heap.size + 1) _ _ rfl HBF.out Try.underlying28 rfl info_wh) rfl ⟨A, c, by rw [HQ.out], by rw [HQ.out]; exact HA.out.at xF, xF, .inl rfl⟩
              · have h6' : ¬ (256 : Int) ≤ (x.list.length : Int) := by omega
                have HQ : Hid (q = (⟨x.list ++ [⟨n, t⟩], x.now⟩, 0)) := Go.Lib.hid (by rw [← hq]; unfold setH; rw [if_neg hgd, if_neg h5, hf]; dsimp only; rw [if_neg h6])
                clear hq hf hgd
                have c1 := HB.out.cell 1 rfl
                go_upto_region 10 with (first
                  | (refine wpList_load_box rfl 28 _ rfl w.heap.size rfl (whL x A c) _ HB.out Try.underlying28 rfl info_wh ?_)
                  | (go_at_call 20; refine (rfind11 x A c n W HC.out (-1) HF.out).mono ?_; rintro e w1 ⟨rfl, y1⟩; have x1 := y0.trans (y1.mono y0.size); have HB := Go.Lib.hid (HB.out.keep y1 HB.out.lt); have HZ := Go.Lib.hid (HZ.out.keep y1 HZ.out.lt); have HC := Go.Lib.hid (HC.out.at y1); have c0 := HB.out.cell 0 rfl; dsimp only))
                have hlen : x.list.length ≤ 65536 := by omega
                clear HA
                have hlc : (x.list).length ≤ c := HC.out.len
                have hnil := HC.out.nil
                have c0 := HB.out.cell 0 rfl
                have q0 := HB.out.lt
                have q1 := HZ.out.lt
                have HFL := Go.Lib.hid (flat_len Al.L 2 Al.len (x.list))
                have h11 : (x.list).length + 1 = (x.list ++ [(⟨n, t⟩ : Al)]).length := by simp
                have H11 := Go.Lib.hid h11
                clear h11 c1
                go_wp2_with (first
                  | (at_builtin; refine wpList_append_rdK rfl _ _ 26 rfl w1.heap.size 63 i0_ _ 2 16 Try.underlying26 hi_ hz0 hz1 hz2 rfl (by omega) (.slice A5 (x.list).length c5) (x.list).length ((x.list).flatMap Al.L) rfl HO6.out (some ⟨w5.heap.size, 0, none⟩) 1 1 (alL ⟨n, t⟩) rfl rfl (fun h => by cases h) (.inr ⟨_, rfl, V6.out.at⟩) (by simp [Value.oneCell']) (by unfold maxLen; omega) (by omega) z6 ?_; intro v7 w7 ho7 hg7 hat7; obtain ⟨A7, c7, rfl⟩ := own_slice ho7; have y7 := grownI (w0 := w1) hg7 (fun g e => by rw [ownBlock_blk] at e; exact own_geI HO6.out g e) z6; have HB := Go.Lib.hid (HB6.out.keep y7 q0); have HZ := Go.Lib.hid (HZ6.out.keep y7 q1); have x7 := x6.trans (y7.mono x1.size); have HO7 := Go.Lib.hid ho7; have z7 := Nat.le_trans z6 y7.size; clear ho7 hg7 hat7; dsimp only)
                  | (at_builtin; refine wpList_copy_rdK rfl _ _ 26 rfl 63 i0_ _ 2 16 Try.underlying26 hi_ hz0 hz1 hz2 rfl (by omega) rfl A (x.list).length c ((x.list).flatMap Al.L) rfl HFL.out (fun e => ⟨hnil e, by have := hnil e; omega⟩) HC.out.rd (al_one _) (by unfold maxLen; omega) (by omega) ?_; intro v5 w5 ho5 y5; obtain ⟨A5, c5, rfl⟩ := own_slice ho5; have y6 : Below w1.heap.size w1 (w5.alloc (.cells #[.int .i64 n, .int .i64 t] 63)) := below_alloc y5 y5.size _; have HB6 := Go.Lib.hid (HB.out.keep y6 q0); have HZ6 := Go.Lib.hid (HZ.out.keep y6 q1); have HO6 := Go.Lib.hid (own_keepA (w' := w5.alloc (.cells #[.int .i64 n, .int .i64 t] 63)) ho5 (fun g hg => (Below.heap_alloc w5 _ g (own_ltI ho5 g hg)))); have V6 := Go.Lib.hid (Bxo.made w5 63 (alL ⟨n, t⟩)); have x6 := x1.trans (y6.mono x1.size); have z6 := y6.size; clear ho5; dsimp only)
                  | (refine wpList_store_any rfl 26 _ _ rfl w.heap.size 0 28 _ [.slice A7 ((x.list).length + 1) c7] _ rfl rfl rfl HB.out info_sla (by show 0 + 1 ≤ 2; omega) (by simp [Value.oneCell']) ?_; intro w8 hb8 ho8; have HB8 : Hid (Bxo w8 w.heap.size 28 (whL ⟨x.list ++ [⟨n, t⟩], x.now⟩ A7 c7)) := Go.Lib.hid (by rw [H11.out] at hb8; exact hb8); have HZ := Go.Lib.hid (HZ.out.only ho8 (by omega)); have x8 := x7.trans (ho8.below (Nat.le_refl _)); clear hb8)
                  | (refine wpList_load_box rfl 28 _ rfl w.heap.size rfl (whL ⟨x.list ++ [⟨n, t⟩], x.now⟩ A7 c7) _ HB8.out Try.underlying28 rfl info_wh ?_)
                  | (refine wpList_store_any rfl 28 _ _ rfl (w.heap.size + 1) 0 28 _ (whL ⟨x.list ++ [⟨n, t⟩], x.now⟩ A7 c7) _ rfl rfl rfl HZ.out info_wh (by show 0 + 2 ≤ 2; omega) (by simp [Value.oneCell']) ?_; intro wF hbF hoF; have HBF := Go.Lib.hid hbF; clear hbF))
                have xF := x8.trans (hoF.below (show w.heap.size ≤ w.heap.size + 1 by omega))
                have hrow := HO7.out
                rw [H11.out] at hrow
                have hge := own_geI hrow
                have HR : AlAt w7 (x.list ++ [⟨n, t⟩]) A7 c7 := AlAt.ofOwn rfl (by rw [List.flatMap_append]; simpa [Al.L] using hrow)
                have HR8 := HR.keepR (w' := w8) (fun ad e => ho8.block _ (by have := hge ad.block (by rw [e]; rfl); omega))
                have HRF := HR8.keepR (w' := wF) (fun ad e => hoF.block _ (by have := hge ad.block (by rw [e]; rfl); omega))
                exact bodyPost_ret (v := .tuple #[.agg (whL ⟨x.list ++ [⟨n, t⟩], x.now⟩ A7 c7).toArray, .int .i64 0]) (results_ct11 (p := 6) (u := 7) rfl _ _ (w.heap.size + 1) _ _ rfl HBF.out Try.underlying28 rfl info_wh) rfl ⟨A7, c7, by rw [HQ.out], by rw [HQ.out]; exact HRF, xF, .inr (fun ad e => ⟨Nat.le_trans x1.size (hge ad.block (by rw [e]; rfl)), by have h1 := own_ltI hrow ad.block (by rw [e]; rfl); have h2 := ho8.size; have h3 := hoF.size; omega⟩)⟩
            · rename_i i
              obtain ⟨hi, _, _⟩ := find_some hf
              have HF := Go.Lib.hid (findI_some hf)
              have i0 : ¬ (i : Int) < 0 := by omega
              have i1 : (0 : Int) ≤ (i : Int) := by omega
              obtain ⟨l, hl⟩ : ∃ l, x.list.take i ++ x.list.drop (i + 1) = l := ⟨_, rfl⟩
              have HLL := Go.Lib.hid hl
              have HQ : Hid (q = (⟨l ++ [⟨n, t⟩], x.now⟩, 0)) := Go.Lib.hid (by rw [← hq]; unfold setH; rw [if_neg hgd, if_neg h5, hf, ← hl])
              have hlen : l.length ≤ 65536 := by have := cut_length hi; rw [hl] at this; omega
              clear hl
              clear hq hf hgd
              have c1 := HB.out.cell 1 rfl
              go_upto_region 10 with (first
                | (refine wpList_load_box rfl 28 _ rfl w.heap.size rfl (whL x A c) _ HB.out Try.underlying28 rfl info_wh ?_)
                | (go_at_call 20; refine (rfind11 x A c n W HC.out (i : Int) HF.out).mono ?_; rintro e w1 ⟨rfl, y1⟩; have x1 := y0.trans (y1.mono y0.size); have HB := Go.Lib.hid (HB.out.keep y1 HB.out.lt); have HZ := Go.Lib.hid (HZ.out.keep y1 HZ.out.lt); have HC := Go.Lib.hid (HC.out.at y1); dsimp only)
                | (go_at_call 21; refine (rwithout11 x A c i w1 HC.out hi hbig).mono ?_; rw [HLL.out]; rintro e w2 ⟨A2, c2, rfl, ha2, y2, hfr⟩; have HFR := Go.Lib.hid hfr; have zz0 := HB.out.lt; have zz1 := HZ.out.lt; have x2 := x1.trans (y2.mono x1.size); have HB := Go.Lib.hid (HB.out.keep y2 HB.out.lt); have HZ := Go.Lib.hid (HZ.out.keep y2 HZ.out.lt); have HA2 := Go.Lib.hid ha2; clear ha2 hfr; dsimp only)
                | (refine wpList_store_any rfl 28 _ _ rfl w.heap.size 0 28 _ (whL ⟨l, x.now⟩ A2 c2) _ rfl rfl rfl HB.out info_wh (by show 0 + 2 ≤ 2; omega) (by simp [Value.oneCell']) ?_; intro w3 hb3 ho3; have HB3 := Go.Lib.hid hb3; have HZ := Go.Lib.hid (HZ.out.only ho3 (by omega)); have HC := Go.Lib.hid (HA2.out.keepR (fun ad e => ho3.block _ (by have := HFR.out ad e; omega))); have x3 := x2.trans (ho3.below (Nat.le_refl _)); clear hb3))
              clear HA
              have hlc : (l).length ≤ c2 := HC.out.len
              have hnil := HC.out.nil
              have c0 := HB3.out.cell 0 rfl
              have q0 := HB3.out.lt
              have q1 := HZ.out.lt
              have HFL := Go.Lib.hid (flat_len Al.L 2 Al.len (l))
              have h11 : (l).length + 1 = (l ++ [(⟨n, t⟩ : Al)]).length := by simp
              have H11 := Go.Lib.hid h11
              clear h11 c1
              go_wp2_with (first
                | (at_builtin; refine wpList_append_rdK rfl _ _ 26 rfl w3.heap.size 63 i0_ _ 2 16 Try.underlying26 hi_ hz0 hz1 hz2 rfl (by omega) (.slice A5 (l).length c5) (l).length ((l).flatMap Al.L) rfl HO6.out (some ⟨w5.heap.size, 0, none⟩) 1 1 (alL ⟨n, t⟩) rfl rfl (fun h => by cases h) (.inr ⟨_, rfl, V6.out.at⟩) (by simp [Value.oneCell']) (by unfold maxLen; omega) (by omega) z6 ?_; intro v7 w7 ho7 hg7 hat7; obtain ⟨A7, c7, rfl⟩ := own_slice ho7; have y7 := grownI (w0 := w3) hg7 (fun g e => by rw [ownBlock_blk] at e; exact own_geI HO6.out g e) z6; have HB := Go.Lib.hid (HB6.out.keep y7 q0); have HZ := Go.Lib.hid (HZ6.out.keep y7 q1); have x7 := x6.trans (y7.mono x3.size); have HO7 := Go.Lib.hid ho7; have z7 := Nat.le_trans z6 y7.size; clear ho7 hg7 hat7; dsimp only)
                | (at_builtin; refine wpList_copy_rdK rfl _ _ 26 rfl 63 i0_ _ 2 16 Try.underlying26 hi_ hz0 hz1 hz2 rfl (by omega) rfl A2 (l).length c2 ((l).flatMap Al.L) rfl HFL.out (fun e => ⟨hnil e, by have := hnil e; omega⟩) HC.out.rd (al_one _) (by unfold maxLen; omega) (by omega) ?_; intro v5 w5 ho5 y5; obtain ⟨A5, c5, rfl⟩ := own_slice ho5; have y6 : Below w3.heap.size w3 (w5.alloc (.cells #[.int .i64 n, .int .i64 t] 63)) := below_alloc y5 y5.size _; have HB6 := Go.Lib.hid (HB3.out.keep y6 q0); have HZ6 := Go.Lib.hid (HZ.out.keep y6 q1); have HO6 := Go.Lib.hid (own_keepA (w' := w5.alloc (.cells #[.int .i64 n, .int .i64 t] 63)) ho5 (fun g hg => (Below.heap_alloc w5 _ g (own_ltI ho5 g hg)))); have V6 := Go.Lib.hid (Bxo.made w5 63 (alL ⟨n, t⟩)); have x6 := x3.trans (y6.mono x3.size); have z6 := y6.size; clear ho5; dsimp only)
                | (refine wpList_store_any rfl 26 _ _ rfl w.heap.size 0 28 _ [.slice A7 ((l).length + 1) c7] _ rfl rfl rfl HB.out info_sla (by show 0 + 1 ≤ 2; omega) (by simp [Value.oneCell']) ?_; intro w8 hb8 ho8; have HB8 : Hid (Bxo w8 w.heap.size 28 (whL ⟨l ++ [⟨n, t⟩], x.now⟩ A7 c7)) := Go.Lib.hid (by rw [H11.out] at hb8; exact hb8); have HZ := Go.Lib.hid (HZ.out.only ho8 (by omega)); have x8 := x7.trans (ho8.below (Nat.le_refl _)); clear hb8)
                | (refine wpList_load_box rfl 28 _ rfl w.heap.size rfl (whL ⟨l ++ [⟨n, t⟩], x.now⟩ A7 c7) _ HB8.out Try.underlying28 rfl info_wh ?_)
                | (refine wpList_store_any rfl 28 _ _ rfl (w.heap.size + 1) 0 28 _ (whL ⟨l ++ [⟨n, t⟩], x.now⟩ A7 c7) _ rfl rfl rfl HZ.out info_wh (by show 0 + 2 ≤ 2; omega) (by simp [Value.oneCell']) ?_; intro wF hbF hoF; have HBF := Go.Lib.hid hbF; clear hbF))
              have xF := x8.trans (hoF.below (show w.heap.size ≤ w.heap.size + 1 by omega))
              have hrow := HO7.out
              rw [H11.out] at hrow
              have hge := own_geI hrow
              have HR : AlAt w7 (l ++ [⟨n, t⟩]) A7 c7 := AlAt.ofOwn rfl (by rw [List.flatMap_append]; simpa [Al.L] using hrow)
              have HR8 := HR.keepR (w' := w8) (fun ad e => ho8.block _ (by have := hge ad.block (by rw [e]; rfl); omega))
              have HRF := HR8.keepR (w' := wF) (fun ad e => hoF.block _ (by have := hge ad.block (by rw [e]; rfl); omega))
              exact bodyPost_ret (v := .tuple #[.agg (whL ⟨l ++ [⟨n, t⟩], x.now⟩ A7 c7).toArray, .int .i64 0]) (results_ct11 (p := 6) (u := 7) rfl _ _ (w.heap.size + 1) _ _ rfl HBF.out Try.underlying28 rfl info_wh) rfl ⟨A7, c7, by rw [HQ.out], by rw [HQ.out]; exact HRF, xF, .inr (fun ad e => ⟨Nat.le_trans x3.size (hge ad.block (by rw [e]; rfl)), by have h1 := own_ltI hrow ad.block (by rw [e]; rfl); have h2 := ho8.size; have h3 := hoF.size; omega⟩)⟩
end Go.Proofs.Ytebmomanpkmloaa
