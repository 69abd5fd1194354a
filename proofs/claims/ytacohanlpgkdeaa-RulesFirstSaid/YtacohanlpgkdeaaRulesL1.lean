/- RulesFirst, from the contracts. -/
import Derived.Test.YtacohanlpgkdeaaRulesL0
import Derived.Deep.RegionHeld3
namespace Go.Proofs.Ytacohanlpgkdeaa
open Go.ChangeShapes Go.WideShapes Go.ChangeAt Go.RowKit
set_option linter.unusedVariables false
set_option linter.unusedSimpArgs false

set_option maxRecDepth 100000 in
set_option maxHeartbeats 8000000 in
theorem rulesFirst (kA0 : AwakeC14) (kR0 : RightC14) (kT0 : FitsC14) (kQ0 : AskC14) (L : List Ru) (A : Option Addr) (c : Nat) (f t : Int) (tp : Tp) (ht : RngTp tp) (w : World) (h : RusAt w L A c) :
    Calls Try.prog 4 #[.slice A L.length c, .int .i64 f, .int .i64 t, tpV tp] w fun e w' => e = .returned (.bool true) ∧ Below w.heap.size w w' := by
  have kA := Go.Lib.hid kA0
  have kR := Go.Lib.hid kR0
  have kT := Go.Lib.hid kT0
  have kQ := Go.Lib.hid kQ0
  have hcap := h.cap
  obtain ⟨M, hM, hml, hMA, hm, hmc⟩ := h.first100
  have HA := Go.Lib.hid hMA
  have HT := Go.Lib.hid ht
  obtain ⟨n, hN⟩ : ∃ n, M.length = n := ⟨_, rfl⟩
  have HN := Go.Lib.hid hN
  rw [hN] at hml hm hmc
  obtain ⟨b, hb⟩ : ∃ q, rightU M = q := ⟨_, rfl⟩
  have HB := Go.Lib.hid hb
  obtain ⟨⟨a0, at0⟩, hq⟩ : ∃ q, askU M f t tp = q := ⟨_, rfl⟩
  have HQ := Go.Lib.hid hq
  have y0 : Below w.heap.size w (w.alloc (oTp tp)) := (Below.refl _ _).alloc (Nat.le_refl _) _
  have hbx := Bxo.made w 27 (tpL tp)
  clear h hM hMA ht hN kA0 kR0 kT0 kQ0 hb hq
  go_enter Try.func4, Try.ntmps4
  go_upto_region 1 with fail
  generalize w.alloc (oTp tp) = W at *
  have HBX := Go.Lib.hid (show Bxo W w.heap.size 27 (tpL tp) from hbx)
  clear hbx
  cases b
  · have hq := HQ.out
    rw [ask_wrong HB.out] at hq
    injection hq with h1 h2
    subst h1 h2
    go_wp2_with (first
      | (go_at_call 7; refine (kA.out _).mono ?_; rintro e w1 ⟨rfl, y1⟩; have x1 := y0.trans (y1.mono y0.size); have HA1 := Go.Lib.hid (HA.out.at x1); have HB1 := Go.Lib.hid (HBX.out.keep y1 HBX.out.lt); dsimp only)
      | (refine wpList_load_box rfl 27 _ rfl w.heap.size rfl (tpL tp) _ HB1.out Try.underlying27 rfl info_tp ?_)
      | (go_at_call 8; refine (kQ.out M A c n HN.out hml f t tp HT.out w1 HA1.out _ HQ.out).mono ?_; rintro e w2 ⟨rfl, y2⟩; have x2 := x1.trans (y2.mono x1.size); have HA2 := Go.Lib.hid (HA1.out.at y2); dsimp only)
      | (go_at_call 10; refine (kR.out M A c n HN.out hml w2 HA2.out _ HB.out).mono ?_; rintro e w3 ⟨rfl, y3⟩; have x3 := x2.trans (y3.mono x2.size); dsimp only))
    go_ret
    exact ⟨rfl, x3⟩
  go_upto_region 7 with (first
      | (go_at_call 7; refine (kA.out _).mono ?_; rintro e w1 ⟨rfl, y1⟩; have x1 := y0.trans (y1.mono y0.size); have HA1 := Go.Lib.hid (HA.out.at x1); have HB1 := Go.Lib.hid (HBX.out.keep y1 HBX.out.lt); dsimp only)
      | (refine wpList_load_box rfl 27 _ rfl w.heap.size rfl (tpL tp) _ HB1.out Try.underlying27 rfl info_tp ?_)
      | (go_at_call 8; refine (kQ.out M A c n HN.out hml f t tp HT.out w1 HA1.out _ HQ.out).mono ?_; rintro e w2 ⟨rfl, y2⟩; have x2 := x1.trans (y2.mono x1.size); have HA2 := Go.Lib.hid (HA1.out.at y2); have HB2 := Go.Lib.hid (HB1.out.keep y2 HB1.out.lt); dsimp only)
      | (go_at_call 10; refine (kR.out M A c n HN.out hml w2 HA2.out _ HB.out).mono ?_; rintro e w3 ⟨rfl, y3⟩; have x3 := x2.trans (y3.mono x2.size); have HB3 := Go.Lib.hid (HB2.out.keep y3 HB2.out.lt); dsimp only))
  clear x1 x2 y1 y2 HA1 HA2 HB1 HB2
  go_wp2_with fail
  go_loopw [11] (fun iv wr => ∃ k : Nat, iv = .int .i64 k ∧ k ≤ n ∧ Hid (∀ j, j < k → fitsU (atU M j) f t tp = false) ∧ Below w3.heap.size w3 wr) (fun iv _ => n - (intOf iv).toNat)
  case atStart => exact ⟨0, rfl, by omega, Go.Lib.hid (fun j hj => by omega), Below.refl _ _⟩
  case round =>
    rename World => wi
    obtain ⟨k, rfl, hk, HK, yi⟩ := hrel
    have k0 : (0 : Int) ≤ (k : Int) := by omega
    have xi := x3.trans (yi.mono x3.size)
    by_cases hkl : k < n
    · have t1 : (k : Int) < (n : Int) := by omega
      have hkM : k < M.length := by rw [HN.out]; exact hkl
      obtain ⟨ad, rfl, hcell⟩ := HA.out.cell hkM
      obtain ⟨r, hr⟩ : ∃ r, M[k] = r := ⟨_, rfl⟩
      have HR : Hid (atU M k = r) := Go.Lib.hid (by rw [atU_get hkM]; exact hr)
      have HRN : Hid (RngRu r) := Go.Lib.hid (by rw [← hr]; exact HA.out.rng _ (List.getElem_mem hkM))
      rw [hr] at hcell
      have HXE : Hid (∀ Y, Below wi.heap.size wi Y → ∀ j v, (ruL r)[j]? = some v → Y.cell? ((ad.add (k * 10)).add j) = some v) := Go.Lib.hid (fun Y y => hcell Y (xi.trans (y.mono xi.size)))
      have HBi := Go.Lib.hid (HB3.out.keep yi HB3.out.lt)
      obtain ⟨fits, hf⟩ : ∃ b, fitsU r f t tp = b := ⟨_, rfl⟩
      have HF := Go.Lib.hid hf
      clear hcell hr hf
      go_upto_region 10 with fail
      try simp only [Act.put, List.setIfInBounds_toArray, List.set_cons_zero, List.set_cons_succ]
      refine wp_region_held_drew (S := fun Y => Below wi.heap.size wi Y) (by kernel_rfl) ?_ (fun hHeld => ?_)
      · exact below_drew (Below.refl _ _)
      refine wpAnyH_take (i := 0) (oi := ⟨some 42, _, _, _, _, _⟩) (v := ?_) rfl (by kernel_rfl) (by kernel_rfl) (by kernel_rfl) (fun _ _ _ h => h) (Or.inl ⟨by rfl, ?_⟩) (by assumption) ?_
      rotate_left
      · intro w hSw; (try dsimp only at hSw); go_simp; (try with_reducible rfl)
      try simp only [Act.put, List.setIfInBounds_toArray, List.set_cons_zero, List.set_cons_succ]
      refine wpAnyH_take (i := 1) (oi := ⟨some 43, _, _, _, _, _⟩) (v := ?_) rfl (by kernel_rfl) (by kernel_rfl) (by kernel_rfl) (fun _ _ _ h => h) (Or.inl ⟨by rfl, ?_⟩) (by assumption) ?_
      rotate_left
      · intro w hSw; (try dsimp only at hSw); go_simp; (try with_reducible rfl)
      try simp only [Act.put, List.setIfInBounds_toArray, List.set_cons_zero, List.set_cons_succ]
      refine wpAnyH_take (i := 2) (oi := ⟨some 44, _, _, _, _, _⟩) (v := ?_) rfl (by kernel_rfl) (by kernel_rfl) (by kernel_rfl) (fun _ _ _ h => h) (Or.inl ⟨by rfl, ?_⟩) (by assumption) ?_
      rotate_left
      · intro w hSw; (try dsimp only at hSw); go_simp; (try with_reducible rfl)
      try simp only [Act.put, List.setIfInBounds_toArray, List.set_cons_zero, List.set_cons_succ]
      refine wpAnyH_take (i := 3) (oi := ⟨some 45, _, _, _, _, _⟩) (v := (ruV r)) rfl (by kernel_rfl) (by kernel_rfl) (by kernel_rfl) (fun _ _ _ h => h) (yieldsIf_load_at (by rfl) 25 _ rfl (ad.add (k * 10)) rfl (ruL r) _ (fun Y h => HXE.out Y h) Try.underlying25 rfl info_ru) (by assumption) ?_
      try simp only [Act.put, List.setIfInBounds_toArray, List.set_cons_zero, List.set_cons_succ]
      refine wpAnyH_take (i := 4) (oi := ⟨some 46, _, _, _, _, _⟩) (v := ?_) rfl (by kernel_rfl) (by kernel_rfl) (by kernel_rfl) (fun _ _ _ h => h) (Or.inl ⟨by rfl, ?_⟩) (by assumption) ?_
      rotate_left
      · intro w hSw; (try dsimp only at hSw); go_simp; (try with_reducible rfl)
      try simp only [Act.put, List.setIfInBounds_toArray, List.set_cons_zero, List.set_cons_succ]
      refine wpAnyH_take (i := 5) (oi := ⟨some 47, _, _, _, _, _⟩) (v := ?_) rfl (by kernel_rfl) (by kernel_rfl) (by kernel_rfl) (fun _ _ _ h => h) (Or.inl ⟨by rfl, ?_⟩) (by assumption) ?_
      rotate_left
      · intro w hSw; (try dsimp only at hSw); go_simp; (try with_reducible rfl)
      try simp only [Act.put, List.setIfInBounds_toArray, List.set_cons_zero, List.set_cons_succ]
      refine wpAnyH_take (i := 6) (oi := ⟨some 48, _, _, _, _, _⟩) (v := (tpV tp)) rfl (by kernel_rfl) (by kernel_rfl) (by kernel_rfl) (fun _ _ _ h => h) (yieldsIf_load_at (by rfl) 27 _ rfl ⟨w.heap.size, 0, none⟩ rfl (tpL tp) _ (fun Y h => (HBi.out.keep h HBi.out.lt).at) Try.underlying27 rfl info_tp) (by assumption) ?_
      try simp only [Act.put, List.setIfInBounds_toArray, List.set_cons_zero, List.set_cons_succ]
      refine wpAnyH_ready (rs := [7]) (by kernel_rfl) (by simp) (AllReadyH.cons (o := ⟨some 49, _, _, _, _, _⟩) rfl (fun Kc hKc => ?_) AllReadyH.nil)
      go_simp
      go_at_call 12; refine (kT.out r HRN.out f t tp HT.out _ _ HF.out).mono ?_; rintro e w7 ⟨rfl, y7⟩; dsimp only
      refine hKc.out _ _ (hHeld.trans (y7.mono hHeld.size)) (fun hHeld => ?_)
      clear hKc Kc
      try simp only [Act.put, List.setIfInBounds_toArray, List.set_cons_zero, List.set_cons_succ]
      refine wpAnyH_done (by kernel_rfl) ?_ _
      have yq := hHeld
      clear hHeld
      have xq := xi.trans (yq.mono xi.size)
      cases fits
      · go_wp2
        go_round
        case rel => exact ⟨k + 1, by go_num, by omega, Go.Lib.hid (fun j hj => by
          by_cases e : j = k
          · rw [e, HR.out]; exact HF.out
          · exact HK.out j (by omega)), yi.trans (yq.mono yi.size)⟩
        case measure => simp [intOf]; omega
      · have he : (a0, at0) = (r.act, (k : Int)) := by rw [← HQ.out, ← HR.out]; exact ask_at HB.out hkM (by rw [HR.out]; exact HF.out) HK.out
        have HA := Go.Lib.hid (HXE.out _ yq 9 _ rfl)
        obtain ⟨fr, to_, proto, src, dst, sbits, dbits, lo, hi_, act⟩ := r
        injection he with he1 he2
        subst he1 he2
        have c9 := at_off 9 (by have := HA.out; rwa [add_add] at this) (by omega)
        dsimp only at c9
        go_wp2
        go_ret
        exact ⟨rfl, xq⟩

    · have t1 : ¬ (k : Int) < (n : Int) := by omega
      have he : (a0, at0) = ((1, -1) : Int × Int) := by
        rw [← HQ.out]
        exact ask_no (fun j hj => HK.out j (by have := HN.out; omega))
      injection he with he1 he2
      subst he1 he2
      go_wp2_with fail
      go_ret
      exact ⟨rfl, xi⟩
end Go.Proofs.Ytacohanlpgkdeaa
