/- RulesRight, from the contracts. -/
import Derived.Test.YtacohanlpgkdeaaRulesL0
import Derived.Test.YtacohanlpgkdeaaRulesR2
namespace Go.Proofs.Ytacohanlpgkdeaa
open Go.ChangeShapes Go.WideShapes Go.ChangeAt Go.RowKit
set_option linter.unusedVariables false
set_option linter.unusedSimpArgs false

theorem plc_get {q : List Nat} {j k : Nat} (h : q[j]? = some k) : (q.flatMap plcL)[j]? = some (.int .i64 (k : Int)) := by
  obtain ⟨hj, e⟩ := List.getElem?_eq_some_iff.1 h
  have := flat_get plcL 1 (fun _ => rfl) q j 0 hj (by decide)
  rw [Nat.mul_one, Nat.add_zero, e] at this
  exact this
set_option maxRecDepth 100000 in
set_option maxHeartbeats 16000000 in
theorem rulesRight (kA0 : AwakeC14) (kR0 : RightC14) (kT0 : FitsC14) (kQ0 : AskC14) (kP0 : PairsC14) (L : List Ru) (A : Option Addr) (c : Nat) (r : Ru) (f t : Int) (tp : Tp) (hr : RngRu r) (ht : RngTp tp) (w : World) (h : RusAt w L A c) :
    Calls Try.prog 3 #[.slice A L.length c, ruV r, .int .i64 f, .int .i64 t, tpV tp] w fun e w' => e = .returned (.bool true) ∧ Below w.heap.size w w' := by
  have kA := Go.Lib.hid kA0
  have kR := Go.Lib.hid kR0
  have kT := Go.Lib.hid kT0
  have kQ := Go.Lib.hid kQ0
  have kP := Go.Lib.hid kP0
  have hcap := h.cap
  obtain ⟨M, hM, hml, hMA, hm, hmc⟩ := h.first100
  have HA := Go.Lib.hid hMA
  have HRR := Go.Lib.hid hr
  have HTT := Go.Lib.hid ht
  obtain ⟨n, hN⟩ : ∃ n, M.length = n := ⟨_, rfl⟩
  have HN := Go.Lib.hid hN
  rw [hN] at hml hm hmc
  obtain ⟨b, hb⟩ : ∃ q, rightU M = q := ⟨_, rfl⟩
  have HB := Go.Lib.hid hb
  obtain ⟨⟨a0, at0⟩, hq⟩ : ∃ q, askU M f t tp = q := ⟨_, rfl⟩
  have HQ := Go.Lib.hid hq
  obtain ⟨fits, hf⟩ : ∃ q, fitsU r f t tp = q := ⟨_, rfl⟩
  have HF := Go.Lib.hid hf
  obtain ⟨Q, hpq⟩ : ∃ q, pairsU M f t = q := ⟨_, rfl⟩
  have HPQ := Go.Lib.hid hpq
  have nb : (b != b) = false := by simp
  have na : (a0 != a0) = false := by simp
  have nat_ : (at0 != at0) = false := by simp
  have nf : (fits != fits) = false := by simp
  have y0 : Below w.heap.size w ((w.alloc (oRu r)).alloc (oTp tp)) := below_alloc (below_alloc (Below.refl _ _) (Nat.le_refl _) _) (by simp) _
  have h1 := (Bxo.made w 25 (ruL r)).alloc (oTp tp)
  have h2 : Bxo ((w.alloc (oRu r)).alloc (oTp tp)) (w.heap.size + 1) 27 (tpL tp) := by
    have := Bxo.made (w.alloc (oRu r)) 27 (tpL tp)
    simpa using this
  clear h hM hMA hr ht hN kA0 kR0 kT0 kQ0 kP0 hb hq hf hpq
  go_enter Try.func3, Try.ntmps3
  go_upto_region 1 with fail
  generalize ((w.alloc (oRu r)).alloc (oTp tp)) = W at *
  have HRW := Go.Lib.hid h1
  have HTW := Go.Lib.hid h2
  clear h1 h2
  have tok1 : True := trivial
  have tok2 : True := trivial
  go_upto_region 6 with (first
    | (go_at_call 7; refine (kA.out _).mono ?_; rintro e w1 ⟨rfl, y1⟩; have x1 := y0.trans (y1.mono y0.size); have HA1 := Go.Lib.hid (HA.out.at x1); have HR1 := Go.Lib.hid (HRW.out.keep y1 HRW.out.lt); have HT1 := Go.Lib.hid (HTW.out.keep y1 HTW.out.lt); dsimp only)
    | (clear tok1; refine wpList_load_box rfl 27 _ rfl (w.heap.size + 1) rfl (tpL tp) _ HT1.out Try.underlying27 rfl info_tp ?_)
    | (go_at_call 8; refine (kQ.out M A c n HN.out hml f t tp HTT.out w1 HA1.out _ HQ.out).mono ?_; rintro e w2 ⟨rfl, y2⟩; have x2 := x1.trans (y2.mono x1.size); have HA2 := Go.Lib.hid (HA1.out.at y2); have HR2 := Go.Lib.hid (HR1.out.keep y2 HR1.out.lt); have HT2 := Go.Lib.hid (HT1.out.keep y2 HT1.out.lt); dsimp only)
    | (clear tok2; refine wpList_load_box rfl 27 _ rfl (w.heap.size + 1) rfl (tpL tp) _ HT2.out Try.underlying27 rfl info_tp ?_)
    | (go_at_call 9; refine (rask14 M A c n HN.out f t tp HTT.out w2 HA2.out _ HQ.out).mono ?_; rintro e w4 ⟨rfl, y4⟩; have x4 := x2.trans (y4.mono x2.size); have HA4 := Go.Lib.hid (HA2.out.at y4); have HR4 := Go.Lib.hid (HR2.out.keep y4 HR2.out.lt); have HT4 := Go.Lib.hid (HT2.out.keep y4 HT2.out.lt); dsimp only))
  clear x1 x2 y1 y2 y4 HA1 HA2 HR1 HR2 HT1 HT2 HRW HTW
  try simp only [Act.put, List.setIfInBounds_toArray, List.set_cons_zero, List.set_cons_succ]
  refine wp_region_held_drew (S := fun Y => Below w4.heap.size w4 Y) (by kernel_rfl) ?_ (fun hHeld => ?_)
  · exact below_drew (Below.refl _ _)
  refine wpAnyH_take (i := 0) (oi := ⟨some 41, _, _, _, _, _⟩) (v := ?_) rfl (by kernel_rfl) (by kernel_rfl) (by kernel_rfl) (fun _ _ _ h => h) (Or.inl ⟨by rfl, ?_⟩) (by assumption) ?_
  rotate_left
  · intro w hSw; (try dsimp only at hSw); go_simp; (try with_reducible rfl)
  try simp only [Act.put, List.setIfInBounds_toArray, List.set_cons_zero, List.set_cons_succ]
  refine wpAnyH_take (i := 2) (oi := ⟨some 43, _, _, _, _, _⟩) (v := ?_) rfl (by kernel_rfl) (by kernel_rfl) (by kernel_rfl) (fun _ _ _ h => h) (Or.inl ⟨by rfl, ?_⟩) (by assumption) ?_
  rotate_left
  · intro w hSw; (try dsimp only at hSw); go_simp; (try with_reducible rfl)
  try simp only [Act.put, List.setIfInBounds_toArray, List.set_cons_zero, List.set_cons_succ]
  refine wpAnyH_ready (rs := [1]) (by kernel_rfl) (by simp) (AllReadyH.cons (o := ⟨some 42, _, _, _, _, _⟩) rfl (fun Kc hKc => ?_) AllReadyH.nil)
  go_simp
  go_at_call 10; refine (kR.out M A c n HN.out hml _ (HA4.out.at hHeld) _ HB.out).mono ?_; rintro e w5 ⟨rfl, y5⟩; dsimp only
  refine hKc.out _ _ (hHeld.trans (y5.mono hHeld.size)) (fun hHeld => ?_)
  clear hKc Kc
  try simp only [Act.put, List.setIfInBounds_toArray, List.set_cons_zero, List.set_cons_succ]
  refine wpAnyH_ready (rs := [3]) (by kernel_rfl) (by simp) (AllReadyH.cons (o := ⟨some 44, _, _, _, _, _⟩) rfl (fun Kc hKc => ?_) AllReadyH.nil)
  go_simp
  go_at_call 11; refine (rright14 M A c n HN.out _ (HA4.out.at hHeld) _ HB.out).mono ?_; rintro e w6 ⟨rfl, y6⟩; dsimp only
  refine hKc.out _ _ (hHeld.trans (y6.mono hHeld.size)) (fun hHeld => ?_)
  clear hKc Kc
  try simp only [Act.put, List.setIfInBounds_toArray, List.set_cons_zero, List.set_cons_succ]
  refine wpAnyH_take (i := 4) (oi := ⟨some 45, _, _, _, _, _⟩) (v := ?_) rfl (by kernel_rfl) (by kernel_rfl) (by kernel_rfl) (fun _ _ _ h => h) (Or.inl ⟨by rfl, ?_⟩) (by assumption) ?_
  rotate_left
  · intro w hSw; (try dsimp only at hSw); go_simp; (try with_reducible rfl)
  try simp only [Act.put, List.setIfInBounds_toArray, List.set_cons_zero, List.set_cons_succ]
  refine wpAnyH_take (i := 5) (oi := ⟨some 46, _, _, _, _, _⟩) (v := ?_) rfl (by kernel_rfl) (by kernel_rfl) (by kernel_rfl) (fun _ _ _ h => h) (Or.inl ⟨by rfl, ?_⟩) (by assumption) ?_
  rotate_left
  · intro w hSw; (try dsimp only at hSw); go_simp; (try with_reducible rfl)
  try simp only [Act.put, List.setIfInBounds_toArray, List.set_cons_zero, List.set_cons_succ]
  refine wpAnyH_take (i := 6) (oi := ⟨some 47, _, _, _, _, _⟩) (v := ?_) rfl (by kernel_rfl) (by kernel_rfl) (by kernel_rfl) (fun _ _ _ h => h) (Or.inl ⟨by rfl, ?_⟩) (by assumption) ?_
  rotate_left
  · intro w hSw; (try dsimp only at hSw); go_simp; (try with_reducible rfl)
  try simp only [Act.put, List.setIfInBounds_toArray, List.set_cons_zero, List.set_cons_succ]
  refine wpAnyH_take (i := 7) (oi := ⟨some 48, _, _, _, _, _⟩) (v := ?_) rfl (by kernel_rfl) (by kernel_rfl) (by kernel_rfl) (fun _ _ _ h => h) (Or.inl ⟨by rfl, ?_⟩) (by assumption) ?_
  rotate_left
  · intro w hSw; (try dsimp only at hSw); go_simp; (try with_reducible rfl)
  try simp only [Act.put, List.setIfInBounds_toArray, List.set_cons_zero, List.set_cons_succ]
  refine wpAnyH_take (i := 8) (oi := ⟨some 49, _, _, _, _, _⟩) (v := ?_) rfl (by kernel_rfl) (by kernel_rfl) (by kernel_rfl) (fun _ _ _ h => h) (Or.inl ⟨by rfl, ?_⟩) (by assumption) ?_
  rotate_left
  · intro w hSw; (try dsimp only at hSw); go_simp; (try with_reducible rfl)
  try simp only [Act.put, List.setIfInBounds_toArray, List.set_cons_zero, List.set_cons_succ]
  refine wpAnyH_take (i := 9) (oi := ⟨some 50, _, _, _, _, _⟩) (v := ?_) rfl (by kernel_rfl) (by kernel_rfl) (by kernel_rfl) (fun _ _ _ h => h) (Or.inl ⟨by rfl, ?_⟩) (by assumption) ?_
  rotate_left
  · intro w hSw; (try dsimp only at hSw); go_simp; (try with_reducible rfl)
  try simp only [Act.put, List.setIfInBounds_toArray, List.set_cons_zero, List.set_cons_succ]
  refine wpAnyH_take (i := 10) (oi := ⟨some 51, _, _, _, _, _⟩) (v := ?_) rfl (by kernel_rfl) (by kernel_rfl) (by kernel_rfl) (fun _ _ _ h => h) (Or.inl ⟨by rfl, ?_⟩) (by assumption) ?_
  rotate_left
  · intro w hSw; (try dsimp only at hSw); go_simp; (try with_reducible rfl)
  try simp only [Act.put, List.setIfInBounds_toArray, List.set_cons_zero, List.set_cons_succ]
  refine wpAnyH_take (i := 11) (oi := ⟨some 52, _, _, _, _, _⟩) (v := ?_) rfl (by kernel_rfl) (by kernel_rfl) (by kernel_rfl) (fun _ _ _ h => h) (Or.inl ⟨by rfl, ?_⟩) (by assumption) ?_
  rotate_left
  · intro w hSw; (try dsimp only at hSw); go_simp; (try with_reducible rfl)
  try simp only [Act.put, List.setIfInBounds_toArray, List.set_cons_zero, List.set_cons_succ]
  refine wpAnyH_take (i := 12) (oi := ⟨some 53, _, _, _, _, _⟩) (v := ?_) rfl (by kernel_rfl) (by kernel_rfl) (by kernel_rfl) (fun _ _ _ h => h) (Or.inl ⟨by rfl, ?_⟩) (by assumption) ?_
  rotate_left
  · intro w hSw; (try dsimp only at hSw); go_simp; (try with_reducible rfl)
  try simp only [Act.put, List.setIfInBounds_toArray, List.set_cons_zero, List.set_cons_succ]
  refine wpAnyH_take (i := 13) (oi := ⟨some 54, _, _, _, _, _⟩) (v := ?_) rfl (by kernel_rfl) (by kernel_rfl) (by kernel_rfl) (fun _ _ _ h => h) (Or.inl ⟨by rfl, ?_⟩) (by assumption) ?_
  rotate_left
  · intro w hSw; (try dsimp only at hSw); go_simp; (try with_reducible rfl)
  try simp only [Act.put, List.setIfInBounds_toArray, List.set_cons_zero, List.set_cons_succ]
  refine wpAnyH_take (i := 14) (oi := ⟨some 55, _, _, _, _, _⟩) (v := ?_) rfl (by kernel_rfl) (by kernel_rfl) (by kernel_rfl) (fun _ _ _ h => h) (Or.inl ⟨by rfl, ?_⟩) (by assumption) ?_
  rotate_left
  · intro w hSw; (try dsimp only at hSw); go_simp; (try with_reducible rfl)
  try simp only [Act.put, List.setIfInBounds_toArray, List.set_cons_zero, List.set_cons_succ]
  refine wpAnyH_take (i := 15) (oi := ⟨some 56, _, _, _, _, _⟩) (v := ?_) rfl (by kernel_rfl) (by kernel_rfl) (by kernel_rfl) (fun _ _ _ h => h) (Or.inl ⟨by rfl, ?_⟩) (by assumption) ?_
  rotate_left
  · intro w hSw; (try dsimp only at hSw); go_simp; (try with_reducible rfl)
  try simp only [Act.put, List.setIfInBounds_toArray, List.set_cons_zero, List.set_cons_succ]
  refine wpAnyH_take (i := 16) (oi := ⟨some 57, _, _, _, _, _⟩) (v := (ruV r)) rfl (by kernel_rfl) (by kernel_rfl) (by kernel_rfl) (fun _ _ _ h => h) (yieldsIf_load_at (by rfl) 25 _ rfl ⟨w.heap.size, 0, none⟩ rfl (ruL r) _ (fun Y h => (HR4.out.keep h HR4.out.lt).at) Try.underlying25 rfl info_ru) (by assumption) ?_
  try simp only [Act.put, List.setIfInBounds_toArray, List.set_cons_zero, List.set_cons_succ]
  refine wpAnyH_take (i := 17) (oi := ⟨some 58, _, _, _, _, _⟩) (v := ?_) rfl (by kernel_rfl) (by kernel_rfl) (by kernel_rfl) (fun _ _ _ h => h) (Or.inl ⟨by rfl, ?_⟩) (by assumption) ?_
  rotate_left
  · intro w hSw; (try dsimp only at hSw); go_simp; (try with_reducible rfl)
  try simp only [Act.put, List.setIfInBounds_toArray, List.set_cons_zero, List.set_cons_succ]
  refine wpAnyH_take (i := 18) (oi := ⟨some 59, _, _, _, _, _⟩) (v := ?_) rfl (by kernel_rfl) (by kernel_rfl) (by kernel_rfl) (fun _ _ _ h => h) (Or.inl ⟨by rfl, ?_⟩) (by assumption) ?_
  rotate_left
  · intro w hSw; (try dsimp only at hSw); go_simp; (try with_reducible rfl)
  try simp only [Act.put, List.setIfInBounds_toArray, List.set_cons_zero, List.set_cons_succ]
  refine wpAnyH_take (i := 19) (oi := ⟨some 60, _, _, _, _, _⟩) (v := (tpV tp)) rfl (by kernel_rfl) (by kernel_rfl) (by kernel_rfl) (fun _ _ _ h => h) (yieldsIf_load_at (by rfl) 27 _ rfl ⟨w.heap.size + 1, 0, none⟩ rfl (tpL tp) _ (fun Y h => (HT4.out.keep h HT4.out.lt).at) Try.underlying27 rfl info_tp) (by assumption) ?_
  try simp only [Act.put, List.setIfInBounds_toArray, List.set_cons_zero, List.set_cons_succ]
  refine wpAnyH_take (i := 21) (oi := ⟨some 62, _, _, _, _, _⟩) (v := (ruV r)) rfl (by kernel_rfl) (by kernel_rfl) (by kernel_rfl) (fun _ _ _ h => h) (yieldsIf_load_at (by rfl) 25 _ rfl ⟨w.heap.size, 0, none⟩ rfl (ruL r) _ (fun Y h => (HR4.out.keep h HR4.out.lt).at) Try.underlying25 rfl info_ru) (by assumption) ?_
  try simp only [Act.put, List.setIfInBounds_toArray, List.set_cons_zero, List.set_cons_succ]
  refine wpAnyH_take (i := 22) (oi := ⟨some 63, _, _, _, _, _⟩) (v := ?_) rfl (by kernel_rfl) (by kernel_rfl) (by kernel_rfl) (fun _ _ _ h => h) (Or.inl ⟨by rfl, ?_⟩) (by assumption) ?_
  rotate_left
  · intro w hSw; (try dsimp only at hSw); go_simp; (try with_reducible rfl)
  try simp only [Act.put, List.setIfInBounds_toArray, List.set_cons_zero, List.set_cons_succ]
  refine wpAnyH_take (i := 23) (oi := ⟨some 64, _, _, _, _, _⟩) (v := ?_) rfl (by kernel_rfl) (by kernel_rfl) (by kernel_rfl) (fun _ _ _ h => h) (Or.inl ⟨by rfl, ?_⟩) (by assumption) ?_
  rotate_left
  · intro w hSw; (try dsimp only at hSw); go_simp; (try with_reducible rfl)
  try simp only [Act.put, List.setIfInBounds_toArray, List.set_cons_zero, List.set_cons_succ]
  refine wpAnyH_take (i := 24) (oi := ⟨some 65, _, _, _, _, _⟩) (v := (tpV tp)) rfl (by kernel_rfl) (by kernel_rfl) (by kernel_rfl) (fun _ _ _ h => h) (yieldsIf_load_at (by rfl) 27 _ rfl ⟨w.heap.size + 1, 0, none⟩ rfl (tpL tp) _ (fun Y h => (HT4.out.keep h HT4.out.lt).at) Try.underlying27 rfl info_tp) (by assumption) ?_
  try simp only [Act.put, List.setIfInBounds_toArray, List.set_cons_zero, List.set_cons_succ]
  refine wpAnyH_ready (rs := [20]) (by kernel_rfl) (by simp) (AllReadyH.cons (o := ⟨some 61, _, _, _, _, _⟩) rfl (fun Kc hKc => ?_) AllReadyH.nil)
  go_simp
  go_at_call 12; refine (kT.out r HRR.out f t tp HTT.out _ _ HF.out).mono ?_; rintro e w7 ⟨rfl, y7⟩; dsimp only
  refine hKc.out _ _ (hHeld.trans (y7.mono hHeld.size)) (fun hHeld => ?_)
  clear hKc Kc
  try simp only [Act.put, List.setIfInBounds_toArray, List.set_cons_zero, List.set_cons_succ]
  refine wpAnyH_ready (rs := [25]) (by kernel_rfl) (by simp) (AllReadyH.cons (o := ⟨some 66, _, _, _, _, _⟩) rfl (fun Kc hKc => ?_) AllReadyH.nil)
  go_simp
  go_at_call 13; refine (rfits14 r HRR.out f t tp HTT.out _ _ HF.out).mono ?_; rintro e w8 ⟨rfl, y8⟩; dsimp only
  refine hKc.out _ _ (hHeld.trans (y8.mono hHeld.size)) (fun hHeld => ?_)
  clear hKc Kc
  try simp only [Act.put, List.setIfInBounds_toArray, List.set_cons_zero, List.set_cons_succ]
  refine wpAnyH_take (i := 26) (oi := ⟨some 67, _, _, _, _, _⟩) (v := ?_) rfl (by kernel_rfl) (by kernel_rfl) (by kernel_rfl) (fun _ _ _ h => h) (Or.inl ⟨by rfl, ?_⟩) (by assumption) ?_
  rotate_left
  · intro w hSw; (try dsimp only at hSw); go_simp; (try with_reducible rfl)
  try simp only [Act.put, List.setIfInBounds_toArray, List.set_cons_zero, List.set_cons_succ]
  refine wpAnyH_take (i := 27) (oi := ⟨some 68, _, _, _, _, _⟩) (v := ?_) rfl (by kernel_rfl) (by kernel_rfl) (by kernel_rfl) (fun _ _ _ h => h) (Or.inl ⟨by rfl, ?_⟩) (by assumption) ?_
  rotate_left
  · intro w hSw; (try dsimp only at hSw); go_simp; (try with_reducible rfl)
  try simp only [Act.put, List.setIfInBounds_toArray, List.set_cons_zero, List.set_cons_succ]
  refine wpAnyH_done (by kernel_rfl) ?_ _
  have yq := hHeld
  clear hHeld
  have x8 := x4.trans (yq.mono x4.size)
  have HA8 := Go.Lib.hid (HA.out.at x8)
  clear HA4
  go_upto_region 9 with (go_at_call 14; refine (kP.out M A c n HN.out hml f t w8 HA8.out _ HPQ.out).mono ?_; rintro e w9 hpo; obtain ⟨PA, pc, pn, rfl, hp1, hp2, hp3, y9⟩ := hpo; dsimp only)
  have x9 := x8.trans (y9.mono x8.size)
  have HPN := Go.Lib.hid hp1
  have HPR := Go.Lib.hid hp3
  clear HA8 hp1 hp3
  go_wp2_with fail
  go_loopw [16, 17] (fun nv iv wr => ∃ k : Nat, nv = .int .i64 ((placesU M f t k).length : Nat) ∧ iv = .int .i64 k ∧ k ≤ n ∧ (b = false → k = 0) ∧ Below w9.heap.size w9 wr) (fun _ iv _ => n - (intOf iv).toNat)
  case atStart => exact ⟨0, rfl, rfl, by omega, fun _ => rfl, Below.refl _ _⟩
  case round =>
    rename World => wi
    obtain ⟨k, rfl, rfl, hk, hkb, yi⟩ := hrel
    have k0 : (0 : Int) ≤ (k : Int) := by omega
    have xi := x9.trans (yi.mono x9.size)
    have HAi := Go.Lib.hid (HA.out.at xi)
    by_cases hkl : k < n
    · have t1 : (k : Int) < (n : Int) := by omega
      cases b
      · obtain rfl := hkb rfl
        have HPE : Hid (pn = 0) := Go.Lib.hid (by rw [← HPN.out, ← HPQ.out]; unfold pairsU; rw [HB.out]; rfl)
        have hpn := HPE.out
        subst hpn
        have hpl : (placesU M f t 0).length = 0 := rfl
        rw [hpl]
        go_wp2_with (go_at_call 11; refine (rright14 M A c n HN.out wi HAi.out _ HB.out).mono ?_; rintro e w10 ⟨rfl, y10⟩; have x10 := xi.trans (y10.mono xi.size); dsimp only)
        go_ret
        exact ⟨rfl, x10⟩
      have hkM : k < M.length := by rw [HN.out]; exact hkl
      obtain ⟨ad, rfl, hcs⟩ := HA.out.cells hkM
      obtain ⟨r2, hr2⟩ : ∃ r2, M[k] = r2 := ⟨_, rfl⟩
      have HR2 : Hid (atU M k = r2) := Go.Lib.hid (by rw [atU_get hkM]; exact hr2)
      rw [hr2] at hcs
      obtain ⟨z, hz⟩ : ∃ z, zoneU r2 f t = z := ⟨_, rfl⟩
      have HZ := Go.Lib.hid hz
      have HPQ2 : Hid (placesU M f t n = Q) := Go.Lib.hid (by rw [← HPQ.out]; unfold pairsU; rw [HB.out, if_pos rfl, HN.out])
      obtain ⟨m, hm⟩ : ∃ m, (placesU M f t k).length = m := ⟨_, rfl⟩
      have HM := Go.Lib.hid hm
      have hmk : m ≤ k := by rw [← hm]; exact places_len M f t k
      rw [hm]
      go_upto_region 13 with (go_at_call 11; refine (rright14 M _ c n HN.out wi HAi.out _ HB.out).mono ?_; rintro e w10 ⟨rfl, y10⟩; dsimp only)
      have x10 := xi.trans (y10.mono xi.size)
      have z10 := yi.trans (y10.mono yi.size)
      obtain ⟨c0, c1, _⟩ := hcs w10 x10
      obtain ⟨fr, to_, proto, src, dst, sbits, dbits, lo, hi_, act⟩ := r2
      dsimp only at c0 c1
      clear hcs hr2 hz hm
      go_cut [114] (fun s wx => s = .bool z ∧ w10 = wx)
      case first =>
        have HZ' : Hid (((fr == -1 || fr == f) && (to_ == -1 || to_ == t)) = z) := HZ
        by_cases a1 : fr = -1
        · have s1 : (fr == -1) = true := by simp [a1]
          have HZ2 := Go.Lib.hid HZ'.out
          rw [s1, Bool.true_or, Bool.true_and] at HZ2
          clear a1 HZ'
          by_cases a2 : to_ = -1
          · have s2 : (to_ == -1) = true := by simp [a2]
            have Hz : Hid (z = true) := Go.Lib.hid (by rw [← HZ2.out, s2]; rfl)
            clear a2
            go_wp2_with fail
            go_meet
            exact ⟨by rw [Hz.out], rfl⟩
          · have s2 : (to_ == -1) = false := by simp [a2]
            by_cases a3 : to_ = t
            · have s3 : (to_ == t) = true := by simp [a3]
              have Hz : Hid (z = true) := Go.Lib.hid (by rw [← HZ2.out, s3]; simp)
              clear a2 a3
              go_wp2_with fail
              go_meet
              exact ⟨by rw [Hz.out], rfl⟩
            · have s3 : (to_ == t) = false := by simp [a3]
              have Hz : Hid (z = false) := Go.Lib.hid (by rw [← HZ2.out, s2, s3]; rfl)
              clear a2 a3
              go_wp2_with fail
              go_meet
              exact ⟨by rw [Hz.out], rfl⟩
        · have s1 : (fr == -1) = false := by simp [a1]
          by_cases a4 : fr = f
          · have s4 : (fr == f) = true := by simp [a4]
            have HZ2 : Hid ((to_ == -1 || to_ == t) = z) := Go.Lib.hid (by rw [← HZ'.out, s4]; simp)
            clear a1 a4 HZ'
            by_cases a2 : to_ = -1
            · have s2 : (to_ == -1) = true := by simp [a2]
              have Hz : Hid (z = true) := Go.Lib.hid (by rw [← HZ2.out, s2]; rfl)
              clear a2
              go_wp2_with fail
              go_meet
              exact ⟨by rw [Hz.out], rfl⟩
            · have s2 : (to_ == -1) = false := by simp [a2]
              by_cases a3 : to_ = t
              · have s3 : (to_ == t) = true := by simp [a3]
                have Hz : Hid (z = true) := Go.Lib.hid (by rw [← HZ2.out, s3]; simp)
                clear a2 a3
                go_wp2_with fail
                go_meet
                exact ⟨by rw [Hz.out], rfl⟩
              · have s3 : (to_ == t) = false := by simp [a3]
                have Hz : Hid (z = false) := Go.Lib.hid (by rw [← HZ2.out, s2, s3]; rfl)
                clear a2 a3
                go_wp2_with fail
                go_meet
                exact ⟨by rw [Hz.out], rfl⟩
          · have s4 : (fr == f) = false := by simp [a4]
            have Hz : Hid (z = false) := Go.Lib.hid (by rw [← HZ'.out, s1, s4]; rfl)
            clear a1 a4
            go_wp2_with fail
            go_meet
            exact ⟨by rw [Hz.out], rfl⟩
      case rest =>
        obtain ⟨rfl, rfl⟩ := hcut
        cases z
        · have HPL : Hid ((placesU M f t (k + 1)).length = m) := Go.Lib.hid (by rw [places_no (by rw [HR2.out]; exact HZ.out), HM.out])
          go_wp2_with fail
          go_round
          case rel => exact ⟨k + 1, by rw [HPL.out], by go_num, by omega, (fun e => by cases e), z10⟩
          case measure => simp [intOf]; omega
        · have HY := Go.Lib.hid (places_yes (l := M) (f := f) (t := t) (k := k) (by rw [HR2.out]; exact HZ.out))
          have HPL : Hid ((placesU M f t (k + 1)).length = m + 1) := Go.Lib.hid (by rw [HY.out, List.length_append, HM.out]; rfl)
          obtain ⟨s, hs⟩ := places_pre M f t (show k + 1 ≤ n by omega)
          have HQK : Hid (Q[m]? = some k) := Go.Lib.hid (by
            rw [← HPQ2.out, hs, HY.out, List.append_assoc, List.getElem?_append_right (by rw [HM.out]; omega), HM.out, Nat.sub_self]
            rfl)
          have hmn : m < pn := by
            have := (List.getElem?_eq_some_iff.1 HQK.out).1
            rw [← HPN.out]; exact this
          have m0 : (0 : Int) ≤ (m : Int) := by omega
          have t3 : ¬ (pn : Int) ≤ (m : Int) := by omega
          have t4 : (m : Int) < (pn : Int) := by omega
          obtain ⟨pd, rfl, hpc⟩ : ∃ pd, PA = some pd ∧ w10.cell? (pd.add m) = some (.int .i64 (k : Int)) := by
            rcases HPR.out with h0 | ⟨pd, e, hc⟩
            · have h1 := flat_len plcL 1 (fun _ => rfl) Q
              rw [h0] at h1
              simp at h1
              have := HPN.out
              omega
            · refine ⟨pd, e, ?_⟩
              have h1 := hc m _ (plc_get HQK.out)
              exact (z10.cell (World.block_lt_of_cell? w9 _ h1)).trans h1
          clear hs
          go_wp2_with fail
          go_round
          case rel => exact ⟨k + 1, by rw [HPL.out]; go_num, by go_num, by omega, (fun e => by cases e), z10⟩
          case measure => simp [intOf]; omega
    · have t1 : ¬ (k : Int) < (n : Int) := by omega
      obtain rfl : k = n := by omega
      have HPE : Hid ((placesU M f t k).length = pn) := Go.Lib.hid (by
        rw [← HPN.out, ← HPQ.out]
        unfold pairsU
        cases b
        · obtain rfl := hkb rfl
          rw [HB.out]; rfl
        · rw [HB.out, if_pos rfl, HN.out])
      have hpe := HPE.out
      generalize (placesU M f t k).length = m at *
      subst hpe
      clear hkb
      go_wp2_with fail
      go_ret
      exact ⟨rfl, xi⟩

end Go.Proofs.Ytacohanlpgkdeaa
