/- The landed rules: Ask, Pairs. -/
import Derived.Test.YtacohanlpgkdeaaRulesA2
import Derived.Test.YtacohanlpgkdeaaAppK
namespace Go.Proofs.Ytacohanlpgkdeaa
open Go.ChangeShapes Go.WideShapes Go.ChangeAt Go.RowKit
set_option linter.unusedVariables false
set_option linter.unusedSimpArgs false

set_option maxRecDepth 100000 in
set_option maxHeartbeats 8000000 in
theorem cask14 : AskC14 := by
  intro l A c N hN h100 f t tp ht w h q hq
  subst hN
  have HQ0 := Go.Lib.hid hq
  have HC := Go.Lib.hid h
  have HT := Go.Lib.hid ht
  have hlc := h.len
  have hcc := h.cap
  have y0 : Below w.heap.size w (w.alloc (oTp tp)) := (Below.refl _ _).alloc (Nat.le_refl _) _
  have hb := Bxo.made w 27 (tpL tp)
  obtain ⟨rt, hrt⟩ : ∃ rt, rightU l = rt := ⟨_, rfl⟩
  have HRT := Go.Lib.hid hrt
  clear hq h ht hrt
  go_enter Try.func8, Try.ntmps8
  go_upto_region 1 with fail
  have y0s := y0.size
  generalize w.alloc (oTp tp) = W at *
  generalize w.heap.size = gt at hb ⊢
  have HB0 := Go.Lib.hid (show Bxo W gt 27 (tpL tp) from hb)
  have HC0 := Go.Lib.hid (HC.out.at y0)
  clear hb
  cases rt
  · have HQ : Hid (q = (1, -1)) := Go.Lib.hid (by rw [← HQ0.out]; exact ask_wrong HRT.out)
    go_wp2_with (go_at_call 10; refine (cright14 l A c _ rfl h100 W HC0.out _ HRT.out).mono ?_; rintro e w2 ⟨rfl, y2⟩; have x2 := y0.trans (y2.mono y0s); dsimp only)
    exact bodyPost_ret (v := .tuple #[.int .i64 1, .int .i64 (-1)]) (results_tmp2 (t := 8) (u := 9) rfl _ _ _) rfl ⟨by rw [HQ.out], x2⟩
  · go_upto_region 3 with (go_at_call 10; refine (cright14 l A c _ rfl h100 W HC0.out _ HRT.out).mono ?_; rintro e w2 ⟨rfl, y2⟩; dsimp only)
    have x2 := y0.trans (y2.mono y0s)
    have HB2 := Go.Lib.hid (HB0.out.keep y2 HB0.out.lt)
    clear HB0 HC0
    go_wp2_with fail
    go_loopw [17] (fun iv wr => ∃ k : Nat, iv = .int .i64 k ∧ k ≤ l.length ∧ Hid (∀ j, j < k → fitsU (atU l j) f t tp = false) ∧ Hid (Bxo wr gt 27 (tpL tp)) ∧ Below w.heap.size w wr) (fun iv _ => l.length - (intOf iv).toNat)
    case atStart => exact ⟨0, rfl, by omega, Go.Lib.hid (fun j hj => by omega), HB2, x2⟩
    case round =>
      rename World => wo
      obtain ⟨k, rfl, hk, HK, HBT, xo⟩ := hrel
      have k0 : (0 : Int) ≤ (k : Int) := by omega
      by_cases hkl : k < l.length
      · have t1 : (k : Int) < (l.length : Int) := by omega
        obtain ⟨ad, rfl, hcell⟩ := HC.out.cell hkl
        obtain ⟨r, hr⟩ : ∃ r, l[k] = r := ⟨_, rfl⟩
        have HR : Hid (atU l k = r) := Go.Lib.hid (by rw [atU_get hkl]; exact hr)
        have HRN : Hid (RngRu r) := Go.Lib.hid (by rw [← hr]; exact HC.out.rng _ (List.getElem_mem hkl))
        rw [hr] at hcell
        have HW := Go.Lib.hid (hcell wo xo)
        have yr : Below wo.heap.size wo (wo.alloc (oRu r)) := (Below.refl _ _).alloc (Nat.le_refl _) _
        have xr := xo.trans (yr.mono xo.size)
        have HTr := Go.Lib.hid (HBT.out.keep yr HBT.out.lt)
        have hbx := Bxo.made wo 25 (ruL r)
        obtain ⟨fits, hf⟩ : ∃ b, fitsU r f t tp = b := ⟨_, rfl⟩
        have HF := Go.Lib.hid hf
        clear hcell hr hf yr HBT
        go_upto_region 6 with (refine wpList_load_at rfl 25 _ rfl (ad.add (k * 10)) rfl (ruL r) _ HW.out Try.underlying25 rfl info_ru ?_)
        have xrs := xr.size
        generalize wo.alloc (oRu r) = W2 at *
        generalize wo.heap.size = g at *
        have HRb := Go.Lib.hid (show Bxo W2 g 25 (ruL r) from hbx)
        clear hbx HW
        have tok1 : True := trivial
        have tok2 : True := trivial
        cases fits
        · go_wp2_with (first
            | (clear tok1; refine wpList_load_box rfl 25 _ rfl g rfl (ruL r) _ HRb.out Try.underlying25 rfl info_ru ?_)
            | (clear tok2; refine wpList_load_box rfl 27 _ rfl gt rfl (tpL tp) _ HTr.out Try.underlying27 rfl info_tp ?_)
            | (go_at_call 12; refine (cfits14 r HRN.out f t tp HT.out _ _ HF.out).mono ?_; rintro e w3 ⟨rfl, y3⟩; have x3 := xr.trans (y3.mono xrs); have HT3 := Go.Lib.hid (HTr.out.keep y3 HTr.out.lt); dsimp only))
          go_round
          case rel => exact ⟨k + 1, by go_num, by omega, Go.Lib.hid (fun j hj => by
            by_cases e : j = k
            · rw [e, HR.out]; exact HF.out
            · exact HK.out j (by omega)), HT3, x3⟩
          case measure => simp [intOf]; omega
        · have HQ : Hid (q = (r.act, (k : Int))) := Go.Lib.hid (by rw [← HQ0.out, ← HR.out]; exact ask_at HRT.out hkl (by rw [HR.out]; exact HF.out) HK.out)
          go_wp2_with (first
            | (clear tok1; refine wpList_load_box rfl 25 _ rfl g rfl (ruL r) _ HRb.out Try.underlying25 rfl info_ru ?_)
            | (clear tok2; refine wpList_load_box rfl 27 _ rfl gt rfl (tpL tp) _ HTr.out Try.underlying27 rfl info_tp ?_)
            | (go_at_call 12; refine (cfits14 r HRN.out f t tp HT.out _ _ HF.out).mono ?_; rintro e w3 ⟨rfl, y3⟩; have x3 := xr.trans (y3.mono xrs); have h9 := HRb.out.keep y3 HRb.out.lt; have c9 := h9.cell 9 rfl; clear h9; (try dsimp only at c9); dsimp only))
          exact bodyPost_ret (v := .tuple #[.int .i64 r.act, .int .i64 (k : Int)]) (results_tmp2 (t := 8) (u := 9) rfl _ _ _) rfl ⟨by rw [HQ.out], x3⟩
      · obtain rfl : k = l.length := by omega
        have t1 : ¬ (l.length : Int) < (l.length : Int) := by omega
        have HQ : Hid (q = (1, -1)) := Go.Lib.hid (by rw [← HQ0.out]; exact ask_no (fun j hj => HK.out j hj))
        go_wp2_with fail
        exact bodyPost_ret (v := .tuple #[.int .i64 1, .int .i64 (-1)]) (results_tmp2 (t := 8) (u := 9) rfl _ _ _) rfl ⟨by rw [HQ.out], xo⟩
set_option maxRecDepth 100000 in
set_option maxHeartbeats 8000000 in
theorem cpairs14 : PairsC14 := by
  intro l A c N hN h100 f t w h q hq
  subst hN
  have HQ0 := Go.Lib.hid hq
  have HC := Go.Lib.hid h
  have hlc := h.len
  have hcc := h.cap
  obtain ⟨i0_, hi_, hz0, hz1, hz2⟩ := info_parts info_int14
  obtain ⟨rt, hrt⟩ : ∃ rt, rightU l = rt := ⟨_, rfl⟩
  have HRT := Go.Lib.hid hrt
  clear hq h hrt
  cases rt
  · have HQ : Hid (q = []) := Go.Lib.hid (by rw [← HQ0.out]; unfold pairsU; rw [HRT.out, if_neg (by simp)])
    go_enter Try.func14, Try.ntmps14
    go_wp2_with (go_at_call 10; refine (cright14 l A c _ rfl h100 w HC.out _ HRT.out).mono ?_; rintro e w2 ⟨rfl, y2⟩; dsimp only)
    go_ret
    exact ⟨none, 0, 0, rfl, by rw [HQ.out]; rfl, Nat.le_refl _, by rw [HQ.out]; exact .inl rfl, y2⟩
  · have HP : Hid (q = placesU l f t l.length) := Go.Lib.hid (by rw [← HQ0.out]; unfold pairsU; rw [HRT.out, if_pos rfl])
    go_enter Try.func14, Try.ntmps14
    go_upto_region 4 with (go_at_call 10; refine (cright14 l A c _ rfl h100 w HC.out _ HRT.out).mono ?_; rintro e w2 ⟨rfl, y2⟩; dsimp only)
    go_wp2_with fail
    go_loopw [7, 15] (fun ov iv wr => ∃ (k m : Nat) (A3 : Option Addr) (c3 : Nat), ov = .slice A3 m c3 ∧ iv = .int .i64 k ∧ k ≤ l.length ∧ m ≤ k ∧ Hid ((placesU l f t k).length = m) ∧ Hid (OwR w.heap.size 3 1 A3 m c3 ((placesU l f t k).flatMap plcL) wr) ∧ Below w.heap.size w wr) (fun _ iv _ => l.length - (intOf iv).toNat)
    case atStart => exact ⟨0, 0, none, 0, rfl, rfl, by omega, by omega, Go.Lib.hid rfl, Go.Lib.hid ⟨own_none _ _ _ _⟩, y2⟩
    case round =>
      rename World => wo
      obtain ⟨k, m, A3, c3, rfl, rfl, hk, hmk, HLN, HO, xo⟩ := hrel
      have k0 : (0 : Int) ≤ (k : Int) := by omega
      by_cases hkl : k < l.length
      · have t1 : (k : Int) < (l.length : Int) := by omega
        obtain ⟨ad, rfl, hcell⟩ := HC.out.cell hkl
        obtain ⟨r, hr⟩ : ∃ r, l[k] = r := ⟨_, rfl⟩
        have HR : Hid (atU l k = r) := Go.Lib.hid (by rw [atU_get hkl]; exact hr)
        rw [hr] at hcell
        have HW := Go.Lib.hid (hcell wo xo)
        have yr : Below wo.heap.size wo (wo.alloc (oRu r)) := (Below.refl _ _).alloc (Nat.le_refl _) _
        have xr := xo.trans (yr.mono xo.size)
        have HOr := Go.Lib.hid (HO.out.at yr)
        have hbx := Bxo.made wo 25 (ruL r)
        obtain ⟨z, hz⟩ : ∃ b, zoneU r f t = b := ⟨_, rfl⟩
        have HZ := Go.Lib.hid hz
        clear hcell hr hz yr HO
        go_upto_region 7 with (refine wpList_load_at rfl 25 _ rfl (ad.add (k * 10)) rfl (ruL r) _ HW.out Try.underlying25 rfl info_ru ?_)
        have xrs := xr.size
        generalize wo.alloc (oRu r) = W2 at *
        generalize wo.heap.size = g at *
        have HRb := Go.Lib.hid (show Bxo W2 g 25 (ruL r) from hbx)
        clear hbx HW
        have tok1 : True := trivial
        cases z
        · have HY : Hid (placesU l f t (k + 1) = placesU l f t k) := Go.Lib.hid (places_no (by rw [HR.out]; exact HZ.out))
          go_wp2_with (first
            | (clear tok1; refine wpList_load_box rfl 25 _ rfl g rfl (ruL r) _ HRb.out Try.underlying25 rfl info_ru ?_)
            | (go_at_call 16; refine (czonesFit r f t _ _ HZ.out).mono ?_; rintro e w3 ⟨rfl, y3⟩; have x3 := xr.trans (y3.mono xrs); have HO3 := Go.Lib.hid (HOr.out.at y3); dsimp only))
          go_round
          case rel => exact ⟨k + 1, m, A3, c3, rfl, by go_num, by omega, by omega, Go.Lib.hid (by rw [HY.out, HLN.out]), Go.Lib.hid (by rw [HY.out]; exact HO3.out), x3⟩
          case measure => simp [intOf]; omega
        · have HY : Hid (placesU l f t (k + 1) = placesU l f t k ++ [k]) := Go.Lib.hid (places_yes (by rw [HR.out]; exact HZ.out))
          go_upto_region 8 with (first
            | (clear tok1; refine wpList_load_box rfl 25 _ rfl g rfl (ruL r) _ HRb.out Try.underlying25 rfl info_ru ?_)
            | (go_at_call 16; refine (czonesFit r f t _ _ HZ.out).mono ?_; rintro e w3 ⟨rfl, y3⟩; dsimp only))
          have x3 := xr.trans (y3.mono xrs)
          have x3s := x3.size
          have HO3 := Go.Lib.hid (HOr.out.at y3)
          have y4 : Below w3.heap.size w3 (w3.alloc (.cells #[.int .i64 (k : Int)] 3)) := (Below.refl _ _).alloc (Nat.le_refl _) _
          have x4 := x3.trans (y4.mono x3s)
          have HO4 := Go.Lib.hid (HO3.out.at y4)
          have HB4 := Go.Lib.hid (Bxo.made w3 3 [.int .i64 (k : Int)])
          go_wp2_with (at_builtin; refine wpList_append_rdK rfl _ _ 33 rfl w.heap.size 3 i0_ _ 1 8 Try.underlying33 hi_ hz0 hz1 hz2 rfl (by omega) (.slice A3 m c3) m ((placesU l f t k).flatMap plcL) rfl HO4.out.own (some ⟨w3.heap.size, 0, none⟩) 1 1 [.int .i64 (k : Int)] rfl rfl (fun e => by cases e) (.inr ⟨_, rfl, HB4.out.at⟩) (by simp [Value.oneCell']) (by unfold maxLen; omega) (by omega) x4.size ?_; intro v5 w5 ho5 hg5 hat5; obtain ⟨A5, c5, rfl⟩ := own_slice ho5; rw [ownBlock_blk] at hg5; have y5 := grownW hg5 HO4.out.ge x4.size; have HO5 : Hid (OwR w.heap.size 3 1 A5 (m + 1) c5 ((placesU l f t (k + 1)).flatMap plcL) w5) := Go.Lib.hid ⟨by rw [HY.out, List.flatMap_append]; exact ho5⟩; clear ho5 hg5 hat5)
          go_round
          case rel => exact ⟨k + 1, m + 1, A5, c5, rfl, by go_num, by omega, by omega, Go.Lib.hid (by rw [HY.out, List.length_append, HLN.out]; rfl), HO5, x4.trans y5⟩
          case measure => simp [intOf]; omega
      · obtain rfl : k = l.length := by omega
        have t1 : ¬ (l.length : Int) < (l.length : Int) := by omega
        go_wp2_with fail
        go_ret
        exact ⟨A3, c3, m, rfl, by rw [HP.out]; exact HLN.out, (own_cap HO.out.own).1, by rw [HP.out]; exact HO.out.rd, xo⟩
end Go.Proofs.Ytacohanlpgkdeaa
