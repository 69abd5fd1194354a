/- Statements of layer 11, walked: what is dropped is never due, all else is. -/
import Derived.Test.YtebmomanpkmloaaWheelRow
namespace Go.Proofs.Ytebmomanpkmloaa
open Go.ChangeShapes Go.WideShapes Go.ChangeAt Go.RowKit
set_option linter.unusedVariables false
set_option linter.unusedSimpArgs false

set_option maxRecDepth 100000 in
set_option maxHeartbeats 16000000 in
theorem wheelDrops (kA0 : AwakeC11) (K : WheelC) (L : List Int) (A : Option Addr) (c : Nat) (D : List Bool) (B : Option Addr) (d : Nat) (w : World) (h : InsAt .u16 w L A c) (hr : ∀ n ∈ L, 0 ≤ n ∧ n ≤ 65535) (hD : BlsAt w D B d) :
    Calls Try.prog 6 #[.slice A L.length c, .slice B D.length d] w fun e w' => e = .returned (.bool true) ∧ Below w.heap.size w w' := by
  have kA := Go.Lib.hid kA0
  have hcap := h.cap
  have x0 : Below w.heap.size w w := Below.refl _ _
  obtain ⟨M, hM, hml, hmr, hMA, hm, hmc⟩ := h.first200 hr
  have HMR := Go.Lib.hid hmr
  have HA := Go.Lib.hid hMA
  have HD := Go.Lib.hid hD
  have hm0 : (0 : Int) ≤ (M.length : Int) := by omega
  clear kA0 h hr hM hmr hMA hD
  go_enter Try.func6, Try.ntmps6
  go_upto_region 5 with (first
    | (go_at_call 7; refine (kA.out _).mono ?_; rintro e w1 ⟨rfl, y1⟩; have x1 := x0.trans (y1.mono x0.size); dsimp only)
    | (go_at_call 8; refine (K.new w1).mono ?_; rintro e w2 ⟨ad, F2, rfl, r2, f2, y2⟩; have H2 := Go.Lib.hid (WhI.made x1 r2 f2 y2); clear r2 f2 y2; dsimp only))
  try rw [Int.toNat_natCast]
  clear hm
  go_wp2_with fail
  go_loopw [7] (fun iv wr => ∃ (k : Nat) (F : Nat → Prop), k ≤ M.length ∧ iv = .int .i64 k ∧ WhI K w ad ⟨allA (M.take k), 0⟩ F wr) (fun iv _ => M.length - (intOf iv).toNat)
  case atStart => exact ⟨0, F2, by omega, rfl, H2.out⟩
  case round =>
    rename World => wo
    obtain ⟨k, F, hk, rfl, hw⟩ := hrel
    have HW := Go.Lib.hid hw
    have k0 : (0 : Int) ≤ (k : Int) := by omega
    clear hw H2
    by_cases hkl : k < M.length
    · have hkl' : (k : Int) < (M.length : Int) := by omega
      obtain ⟨adA, rfl, hcA⟩ := HA.out.cell hkl
      have ca := hcA wo HW.out.below
      have hst := Go.Lib.hid (all_set M HMR.out hml k hkl)
      obtain ⟨n0, n1⟩ := HMR.out M[k] (List.getElem_mem hkl)
      generalize M[k] = n at *
      have e1 : IntKind.i64.wrap n = n := IntWalk.i64_in _ (by omega)
      have e2 : IntKind.i64.wrap (n + 1) = n + 1 := IntWalk.i64_in _ (by omega)
      have e3 : IntKind.i64.wrap ((k : Int) + 1) = (k : Int) + 1 := IntWalk.i64_in _ (by omega)
      clear hcA
      go_wp2_with (go_at_call 10; refine (K.set HW.out.rep (k : Int) (n + 1) (⟨allA (M.take (k + 1)), 0⟩, 0) hst.out).mono ?_; rintro e w3 ⟨F3, rfl, r3, n3, m3⟩; have H3 := Go.Lib.hid (HW.out.turn r3 n3 m3); clear r3 n3 m3; dsimp only)
      go_round
      case rel => exact ⟨k + 1, F3, by omega, by go_num, H3.out⟩
      case measure => simp [intOf]; omega
    · obtain rfl : k = M.length := by omega
      have hkl' : ¬ (M.length : Int) < (M.length : Int) := by omega
      have H0 : Hid (WhI K w ad ⟨keepA M D 0, 0⟩ F wo) := Go.Lib.hid (by have q := HW.out; rw [List.take_length] at q; rw [keep_zero]; exact q)
      have hk0 : (keepA M D 0).length = 0 + (M.length - 0) := by rw [keep_zero, all_length]; omega
      have HK0 := Go.Lib.hid hk0
      clear hk0 HW
      go_wp2_with fail
      go_loopw [6, 8] (fun lv iv wr => ∃ (i left : Nat) (F : Nat → Prop), i ≤ M.length ∧ iv = .int .i64 i ∧ lv = .int .i64 left ∧ left ≤ i ∧ (keepA M D i).length = left + (M.length - i) ∧ WhI K w ad ⟨keepA M D i, 0⟩ F wr) (fun _ iv _ => M.length - (intOf iv).toNat)
      case atStart => exact ⟨0, 0, F, by omega, rfl, rfl, Nat.le_refl _, HK0.out, H0.out⟩
      case round =>
        rename World => wp
        obtain ⟨i, left, G, hi, rfl, rfl, hli, hlen, hw⟩ := hrel
        have HW := Go.Lib.hid hw
        have HLEN := Go.Lib.hid hlen
        have i0 : (0 : Int) ≤ (i : Int) := by omega
        clear hw hlen H0 HK0 hkl'
        by_cases hil : i < M.length
        · have hil' : (i : Int) < (M.length : Int) := by omega
          have e3 : IntKind.i64.wrap ((i : Int) + 1) = (i : Int) + 1 := IntWalk.i64_in _ (by omega)
          have e4 : IntKind.i64.wrap ((left : Int) + 1) = (left : Int) + 1 := IntWalk.i64_in _ (by omega)
          cases hdi : D.getD i false
          · have HS : Hid (keepA M D (i + 1) = keepA M D i) := Go.Lib.hid (keep_same M D i hdi)
            have HL : Hid ((keepA M D (i + 1)).length = (left + 1) + (M.length - (i + 1))) := Go.Lib.hid (by rw [HS.out, HLEN.out]; omega)
            have HW' : Hid (WhI K w ad ⟨keepA M D (i + 1), 0⟩ G wp) := Go.Lib.hid (by rw [HS.out]; exact HW.out)
            by_cases hid_ : i < D.length
            · have hid' : (i : Int) < (D.length : Int) := by omega
              obtain ⟨adD, rfl, hcD⟩ := HD.out.cell hid_
              have cd := hcD wp HW.out.below
              rw [List.getD_eq_getElem?_getD, List.getElem?_eq_getElem hid_] at hdi
              rw [show D[i] = false from hdi] at cd
              clear hcD hdi
              go_wp2_with fail
              go_round
              case rel => exact ⟨i + 1, left + 1, G, by omega, by go_num, by go_num, by omega, HL.out, HW'.out⟩
              case measure => simp [intOf]; omega
            · have hid' : ¬ (i : Int) < (D.length : Int) := by omega
              clear hdi
              go_wp2_with fail
              go_round
              case rel => exact ⟨i + 1, left + 1, G, by omega, by go_num, by go_num, by omega, HL.out, HW'.out⟩
              case measure => simp [intOf]; omega
          · have hid_ : i < D.length := by
              apply Classical.byContradiction
              intro hn
              rw [List.getD_eq_getElem?_getD, List.getElem?_eq_none (by omega)] at hdi
              cases hdi
            obtain ⟨k1, k2, k3⟩ := keep_drop M D i hil hdi 0
            have K1 := Go.Lib.hid k1
            have K2 := Go.Lib.hid k2
            have HL : Hid ((keepA M D (i + 1)).length = left + (M.length - (i + 1))) := Go.Lib.hid (by have := HLEN.out; omega)
            have hid' : (i : Int) < (D.length : Int) := by omega
            obtain ⟨adD, rfl, hcD⟩ := HD.out.cell hid_
            have cd := hcD wp HW.out.below
            rw [List.getD_eq_getElem?_getD, List.getElem?_eq_getElem hid_] at hdi
            rw [show D[i] = true from hdi] at cd
            clear hcD hdi k1 k2 k3
            go_wp2_with (first
              | (go_at_call 12; refine (K.drop H4.out.rep (i : Int) (by unfold I64; omega) (⟨keepA M D (i + 1), 0⟩, 9) K2.out).mono ?_; rintro e w5 ⟨F5, rfl, r5, n5, m5⟩; have H5 := Go.Lib.hid (H4.out.turn r5 n5 m5); clear r5 n5 m5; dsimp only)
              | (go_at_call 12; refine (K.drop HW.out.rep (i : Int) (by unfold I64; omega) (⟨keepA M D (i + 1), 0⟩, 0) K1.out).mono ?_; rintro e w4 ⟨F4, rfl, r4, n4, m4⟩; have H4 := Go.Lib.hid (HW.out.turn r4 n4 m4); clear r4 n4 m4; dsimp only))
            go_round
            case rel => exact ⟨i + 1, left, F5, by omega, by go_num, rfl, by omega, HL.out, H5.out⟩
            case measure => simp [intOf]; omega
        · obtain rfl : i = M.length := by omega
          have hil' : ¬ (M.length : Int) < (M.length : Int) := by omega
          obtain ⟨d1, d2⟩ := keep_due M D HMR.out M.length
          obtain ⟨O, hO⟩ : ∃ O, numsA (dueA (keepA M D M.length) 70000) = O := ⟨_, rfl⟩
          have hol : O.length = left := by rw [← hO]; unfold numsA; rw [List.length_map, d1, HLEN.out]; omega
          have HT : Hid (tickH ⟨keepA M D M.length, 0⟩ 70000 = (⟨[], 70000⟩, O, 0)) := Go.Lib.hid (by unfold tickH; rw [if_neg (show ¬ ((70000 : Int) < 0 ∨ (70000 : Int) > 1099511627776) by decide)]; dsimp only; rw [d2, hO])
          have HO : Hid (∀ k (hk : k < O.length), ∃ j : Nat, O[k] = (j : Int) ∧ j < M.length ∧ D.getD j false = false) := Go.Lib.hid (by
            subst hO
            intro k hk
            have hk' : k < (dueA (keepA M D M.length) 70000).length := by unfold numsA at hk; simpa using hk
            have h1 := (due_mem.1 (List.getElem_mem hk')).1
            obtain ⟨h2, h3⟩ := keep_mem.1 h1
            obtain ⟨j, hj, e⟩ := all_mem.1 h2
            have en : (numsA (dueA (keepA M D M.length) 70000))[k] = (dueA (keepA M D M.length) 70000)[k].num := by simp [numsA]
            rw [e] at h3
            refine ⟨j, by rw [en, e], hj, ?_⟩
            cases hd : D.getD j false
            · rfl
            · exact absurd ⟨(by show (j : Int) < (M.length : Int); omega), by simpa using hd⟩ h3)
          clear d1 d2 hO
          go_upto_region 20 with (first
            | (go_at_call 14; refine (K.tick HW.out.rep 70000 (⟨[], 70000⟩, O, 0) HT.out).mono ?_; rintro e w4 ⟨F4, A4, c4, rfl, d4, r4, n4, m4⟩; have H4 := Go.Lib.hid (HW.out.turn r4 n4 m4); have D4 := Go.Lib.hid d4.ins; clear r4 n4 m4 d4; dsimp only; rw [hol])
            | (go_at_call 18; refine (K.waits H4.out.rep 0 rfl).mono ?_; rintro e w5 ⟨rfl, y5⟩; have H5 := Go.Lib.hid (H4.out.call y5); have E5 := Go.Lib.hid (D4.out.keep y5); dsimp only))
          clear H4 D4 HW
          go_wp2_with fail
          go_loopw [11] (fun kv wr => ∃ k : Nat, k ≤ left ∧ kv = .int .i64 k ∧ Below w5.heap.size w5 wr) (fun kv _ => left - (intOf kv).toNat)
          case atStart => exact ⟨0, by omega, rfl, Below.refl _ _⟩
          case round =>
            rename World => wq
            obtain ⟨k, hk, rfl, y6⟩ := hrel
            have k0 : (0 : Int) ≤ (k : Int) := by omega
            have x6 := H5.out.below.trans (y6.mono H5.out.below.size)
            by_cases hkl : k < left
            · have hkl' : (k : Int) < (left : Int) := by omega
              have hko : k < O.length := by omega
              obtain ⟨adO, rfl, hcO⟩ := E5.out.cell hko
              have co := hcO wq y6
              obtain ⟨j, hj, hjm, hjd⟩ := HO.out k hko
              rw [hj] at co
              have j0 : ¬ (j : Int) < 0 := by omega
              have j00 : (0 : Int) ≤ (j : Int) := by omega
              have j1 : ¬ (M.length : Int) ≤ (j : Int) := by omega
              have j2 : (j : Int) < (M.length : Int) := by omega
              have e3 : IntKind.i64.wrap ((k : Int) + 1) = (k : Int) + 1 := IntWalk.i64_in _ (by omega)
              clear hcO hj hil'
              by_cases hid_ : j < D.length
              · have hid' : (j : Int) < (D.length : Int) := by omega
                obtain ⟨adD, rfl, hcD⟩ := HD.out.cell hid_
                have cd := hcD wq x6
                rw [List.getD_eq_getElem?_getD, List.getElem?_eq_getElem hid_] at hjd
                rw [show D[j] = false from hjd] at cd
                clear hcD hjd
                go_wp2_with fail
                go_round
                case rel => exact ⟨k + 1, by omega, by go_num, y6⟩
                case measure => simp [intOf]; omega
              · have hid' : ¬ (j : Int) < (D.length : Int) := by omega
                clear hjd
                go_wp2_with fail
                go_round
                case rel => exact ⟨k + 1, by omega, by go_num, y6⟩
                case measure => simp [intOf]; omega
            · obtain rfl : k = left := by omega
              have hkl' : ¬ (k : Int) < (k : Int) := by omega
              go_wp2
              go_ret
              exact ⟨rfl, x6⟩
end Go.Proofs.Ytebmomanpkmloaa
