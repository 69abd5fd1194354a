/- Lemmas, several texts in one. -/
import Derived.Test.YtofpalmghdapkaaQ07
/- The library's heap over a list of alarms in memory: down. -/
namespace Go.Proofs.Ytofpalmghdapkaa
open Go.ChangeShapes Go.WideShapes Go.ChangeAt Go.RowKit
set_option linter.unusedVariables false
set_option linter.unusedSimpArgs false

theorem par_child {i j : Nat} (h : j = 2 * i + 1 ∨ j = 2 * i + 2) : parA j = i := by unfold parA; omega
section
variable {ad : Addr} (K : HeapC ad)
/-- what down hands back. -/
structure DownR (l : List Al) (F : Nat → Prop) (i0 n : Nat) (w w' : World) (b : Bool) (l' : List Al) : Prop where
  rep : K.Rep w' l' F
  moves : Moves w w' F
  ord : OrdA n l l'
  went : b = true → HeapA l' n
  stood : b = false → l' = l ∧ UpA l n i0
def DownPost (l : List Al) (F : Nat → Prop) (n i0 : Nat) (w : World) (e : Ending) (w' : World) : Prop := ∃ b l', e = .returned (.bool b) ∧ DownR K l F i0 n w w' b l'
theorem DownPost.of {K : HeapC ad} {l lc : List Al} {F : Nat → Prop} {n i0 i : Nat} {w w' : World} (hr : K.Rep w' lc F) (hm : Moves w w' F) (ho : OrdA n l lc) (hg : i0 ≤ i) (hp : (i0 < i → HeapA lc n) ∧ (i = i0 → lc = l ∧ UpA l n i0)) : DownPost K l F n i0 w (.returned (.bool (decide (i0 < i)))) w' :=
  ⟨_, lc, rfl, hr, hm, ho, fun hb => hp.1 (by simpa using hb), fun hb => hp.2 (by simp at hb; omega)⟩
set_option maxRecDepth 100000 in
set_option maxHeartbeats 8000000 in
theorem hdown (l : List Al) (F : Nat → Prop) (i0 n : Nat) (w : World) (h : K.Rep w l F) (hi0 : i0 < l.length) (hn : n ≤ l.length) (hh : HoleA l n i0) :
    Calls Try.prog 63 #[.iface 116 (.pointer (some ad)), .int .i64 i0, .int .i64 n] w (DownPost K l F n i0 w) := by
  have HK := Go.Lib.hid h
  have HH := Go.Lib.hid hh
  have hsz := K.size h
  clear h hh
  have mL := meth_less ad
  have mS := meth_swap ad
  go_enter Try.func63, Try.ntmps63
  go_wp2_with fail
  go_loopw [7] (fun x wr => ∃ (i : Nat) (lc : List Al), x = .int .i64 i ∧ i < l.length ∧ Hid (K.Rep wr lc F ∧ DownA l lc n i0 i ∧ OrdA n l lc ∧ Moves w wr F)) (fun x _ => l.length - (intOf x).toNat)
  case atStart => exact ⟨i0, l, rfl, hi0, Go.Lib.hid ⟨HK.out, DownA.start HH.out, OrdA.refl _ _, Moves.refl _ _⟩⟩
  case round =>
    rename World => wo
    obtain ⟨i, lc, rfl, hi, HI⟩ := hrel
    obtain ⟨hr, hd, ho, hm⟩ := HI.out
    have HR := Go.Lib.hid hr
    have HD := Go.Lib.hid hd
    have HO := Go.Lib.hid ho
    have HM := Go.Lib.hid hm
    have hlc := ho.len
    clear hr hd ho hm HI
    obtain ⟨j1, ha1, hb1⟩ : ∃ j1, j1 ≤ 2 * i + 1 ∧ 2 * i + 1 ≤ j1 := ⟨2 * i + 1, Nat.le_refl _, Nat.le_refl _⟩
    obtain ⟨j2, ha2, hb2⟩ : ∃ j2, j2 ≤ 2 * i + 2 ∧ 2 * i + 2 ≤ j2 := ⟨2 * i + 2, Nat.le_refl _, Nat.le_refl _⟩
    have e1 : IntKind.i64.wrap (2 * (i : Int)) = 2 * (i : Int) := IntWalk.i64_in _ (by omega)
    have e2 : IntKind.i64.wrap (2 * (i : Int) + 1) = (j1 : Nat) := by rw [IntWalk.i64_in _ (by omega)]; omega
    have e3 : IntKind.i64.wrap ((j1 : Int) + 1) = (j2 : Nat) := by rw [IntWalk.i64_in _ (by omega)]; omega
    have n1 : ¬ (j1 : Int) < 0 := by omega
    by_cases hc1 : n ≤ j1
    · have HP := Go.Lib.hid (HD.out.stop (fun k k0 kn kp => by rcases (par_of k0).1 kp with e | e <;> omega))
      have g1 : (n : Int) ≤ (j1 : Int) := by omega
      go_wp2
      go_ret
      exact DownPost.of HR.out HM.out HO.out HD.out.ge HP.out
    · have g1 : ¬ (n : Int) ≤ (j1 : Int) := by omega
      by_cases hc2 : j2 < n
      · have g2 : (j2 : Int) < (n : Int) := by omega
        obtain ⟨q1, hq1⟩ : ∃ q1, ltA (atA lc j2) (atA lc j1) = q1 := ⟨_, rfl⟩
        have HQ1 := Go.Lib.hid hq1
        clear hq1
        cases q1
        · have HS : Hid (∀ k, 0 < k → k < n → parA k = i → leA (atA lc j1) (atA lc k) = true) := Go.Lib.hid (fun k k0 kn kp => by
            rcases (par_of k0).1 kp with e | e
            · rw [show k = j1 by omega, leA_iff]; omega
            · rw [show k = j2 by omega]; exact not_lt HQ1.out)
          obtain ⟨q2, hq2⟩ : ∃ q2, ltA (atA lc j1) (atA lc i) = q2 := ⟨_, rfl⟩
          have HQ2 := Go.Lib.hid hq2
          clear hq2
          cases q2
          · have HP := Go.Lib.hid (HD.out.stop (fun k k0 kn kp => leA_trans _ _ _ (not_lt HQ2.out) (HS.out k k0 kn kp)))
            go_wp2_with (first
              | (go_at_call_of 84 (Value.int .i64 i); refine (K.less HR1.out j1 i false (by omega) (by omega) HQ2.out).mono ?_; rintro e w2 ⟨rfl, y2⟩; have HR2 := Go.Lib.hid (HeapC.at HR1.out y2); have HM2 := Go.Lib.hid (HM1.out.trans (moves_below y2)); dsimp only)
              | (go_at_call 84; refine (K.less HR.out j2 j1 false (by omega) (by omega) HQ1.out).mono ?_; rintro e w1 ⟨rfl, y1⟩; have HR1 := Go.Lib.hid (HeapC.at HR.out y1); have HM1 := Go.Lib.hid (HM.out.trans (moves_below y1)); dsimp only))
            go_ret
            exact DownPost.of HR2.out HM2.out HO.out HD.out.ge HP.out
          · have HP := Go.Lib.hid (HD.out.step (by omega) (by omega) (by omega) (par_child (by omega)) HQ2.out HS.out)
            go_wp2_with (first
              | (go_at_call_of 84 (Value.int .i64 i); refine (K.less HR1.out j1 i true (by omega) (by omega) HQ2.out).mono ?_; rintro e w2 ⟨rfl, y2⟩; have HR2 := Go.Lib.hid (HeapC.at HR1.out y2); have HM2 := Go.Lib.hid (HM1.out.trans (moves_below y2)); dsimp only)
              | (go_at_call 87; refine (K.swap HR2.out i j1 (by omega) (by omega)).mono ?_; rintro e w3 ⟨rfl, r3, m3⟩; have HR3 := Go.Lib.hid r3; clear r3; dsimp only)
              | (go_at_call 84; refine (K.less HR.out j2 j1 false (by omega) (by omega) HQ1.out).mono ?_; rintro e w1 ⟨rfl, y1⟩; have HR1 := Go.Lib.hid (HeapC.at HR.out y1); have HM1 := Go.Lib.hid (HM.out.trans (moves_below y1)); dsimp only))
            go_round
            case rel => exact ⟨j1, _, rfl, by omega, Go.Lib.hid ⟨HR3.out, HP.out, HO.out.swap (by omega) (by omega) hn, HM2.out.trans m3⟩⟩
            case measure => simp [intOf]; omega
        · have HS : Hid (∀ k, 0 < k → k < n → parA k = i → leA (atA lc j2) (atA lc k) = true) := Go.Lib.hid (fun k k0 kn kp => by
            rcases (par_of k0).1 kp with e | e
            · rw [show k = j1 by omega]; exact lt_le HQ1.out
            · rw [show k = j2 by omega, leA_iff]; omega)
          obtain ⟨q2, hq2⟩ : ∃ q2, ltA (atA lc j2) (atA lc i) = q2 := ⟨_, rfl⟩
          have HQ2 := Go.Lib.hid hq2
          clear hq2
          cases q2
          · have HP := Go.Lib.hid (HD.out.stop (fun k k0 kn kp => leA_trans _ _ _ (not_lt HQ2.out) (HS.out k k0 kn kp)))
            go_wp2_with (first
              | (go_at_call_of 84 (Value.int .i64 i); refine (K.less HR1.out j2 i false (by omega) (by omega) HQ2.out).mono ?_; rintro e w2 ⟨rfl, y2⟩; have HR2 := Go.Lib.hid (HeapC.at HR1.out y2); have HM2 := Go.Lib.hid (HM1.out.trans (moves_below y2)); dsimp only)
              | (go_at_call 84; refine (K.less HR.out j2 j1 true (by omega) (by omega) HQ1.out).mono ?_; rintro e w1 ⟨rfl, y1⟩; have HR1 := Go.Lib.hid (HeapC.at HR.out y1); have HM1 := Go.Lib.hid (HM.out.trans (moves_below y1)); dsimp only))
            go_ret
            exact DownPost.of HR2.out HM2.out HO.out HD.out.ge HP.out
          · have HP := Go.Lib.hid (HD.out.step (by omega) (by omega) (by omega) (par_child (by omega)) HQ2.out HS.out)
            go_wp2_with (first
              | (go_at_call_of 84 (Value.int .i64 i); refine (K.less HR1.out j2 i true (by omega) (by omega) HQ2.out).mono ?_; rintro e w2 ⟨rfl, y2⟩; have HR2 := Go.Lib.hid (HeapC.at HR1.out y2); have HM2 := Go.Lib.hid (HM1.out.trans (moves_below y2)); dsimp only)
              | (go_at_call 87; refine (K.swap HR2.out i j2 (by omega) (by omega)).mono ?_; rintro e w3 ⟨rfl, r3, m3⟩; have HR3 := Go.Lib.hid r3; clear r3; dsimp only)
              | (go_at_call 84; refine (K.less HR.out j2 j1 true (by omega) (by omega) HQ1.out).mono ?_; rintro e w1 ⟨rfl, y1⟩; have HR1 := Go.Lib.hid (HeapC.at HR.out y1); have HM1 := Go.Lib.hid (HM.out.trans (moves_below y1)); dsimp only))
            go_round
            case rel => exact ⟨j2, _, rfl, by omega, Go.Lib.hid ⟨HR3.out, HP.out, HO.out.swap (by omega) (by omega) hn, HM2.out.trans m3⟩⟩
            case measure => simp [intOf]; omega
      · have g2 : ¬ (j2 : Int) < (n : Int) := by omega
        have HS : Hid (∀ k, 0 < k → k < n → parA k = i → leA (atA lc j1) (atA lc k) = true) := Go.Lib.hid (fun k k0 kn kp => by
          rcases (par_of k0).1 kp with e | e
          · rw [show k = j1 by omega, leA_iff]; omega
          · exfalso; omega)
        have HR1 := HR
        have HM1 := HM
        obtain ⟨q2, hq2⟩ : ∃ q2, ltA (atA lc j1) (atA lc i) = q2 := ⟨_, rfl⟩
        have HQ2 := Go.Lib.hid hq2
        clear hq2
        cases q2
        · have HP := Go.Lib.hid (HD.out.stop (fun k k0 kn kp => leA_trans _ _ _ (not_lt HQ2.out) (HS.out k k0 kn kp)))
          go_wp2_with (first
            | (go_at_call_of 84 (Value.int .i64 i); refine (K.less HR1.out j1 i false (by omega) (by omega) HQ2.out).mono ?_; rintro e w2 ⟨rfl, y2⟩; have HR2 := Go.Lib.hid (HeapC.at HR1.out y2); have HM2 := Go.Lib.hid (HM1.out.trans (moves_below y2)); dsimp only))
          go_ret
          exact DownPost.of HR2.out HM2.out HO.out HD.out.ge HP.out
        · have HP := Go.Lib.hid (HD.out.step (by omega) (by omega) (by omega) (par_child (by omega)) HQ2.out HS.out)
          go_wp2_with (first
            | (go_at_call_of 84 (Value.int .i64 i); refine (K.less HR1.out j1 i true (by omega) (by omega) HQ2.out).mono ?_; rintro e w2 ⟨rfl, y2⟩; have HR2 := Go.Lib.hid (HeapC.at HR1.out y2); have HM2 := Go.Lib.hid (HM1.out.trans (moves_below y2)); dsimp only)
            | (go_at_call 87; refine (K.swap HR2.out i j1 (by omega) (by omega)).mono ?_; rintro e w3 ⟨rfl, r3, m3⟩; have HR3 := Go.Lib.hid r3; clear r3; dsimp only))
          go_round
          case rel => exact ⟨j1, _, rfl, by omega, Go.Lib.hid ⟨HR3.out, HP.out, HO.out.swap (by omega) (by omega) hn, HM2.out.trans m3⟩⟩
          case measure => simp [intOf]; omega
end
end Go.Proofs.Ytofpalmghdapkaa
