/- Statements of layer 11, walked: each alarm is due just once, in order. -/
import Derived.Test.YtebmomanpkmloaaWheelRow
namespace Go.Proofs.Ytebmomanpkmloaa
open Go.ChangeShapes Go.WideShapes Go.ChangeAt Go.RowKit
set_option linter.unusedVariables false
set_option linter.unusedSimpArgs false

theorem tick_left (M : List Int) {was now : Int} (h0 : 0 ≤ was) (h1 : was ≤ now) (h2 : now ≤ 1099511627776) : tickH ⟨leftA (allA M) was, was⟩ now = (⟨leftA (allA M) now, now⟩, numsA (dueA (leftA (allA M) was) now), 0) := by
  unfold tickH
  rw [if_neg (by dsimp only; omega)]
  dsimp only
  rw [left_two _ h1]
theorem due_count (M : List Int) (was now : Int) (h : was ≤ now) : (numsA (dueA (leftA (allA M) was) now)).length + (leftA (allA M) now).length = (leftA (allA M) was).length := by
  unfold numsA
  rw [List.length_map, ← left_two _ h]
  exact due_length _ _
/-- what is due, number by number. -/
theorem due_num (M : List Int) (was now : Int) (k : Nat) (hk : k < (numsA (dueA (leftA (allA M) was) now)).length) : ∃ j, ∃ hj : j < M.length, (numsA (dueA (leftA (allA M) was) now))[k] = (j : Int) ∧ was < M[j] + 1 ∧ M[j] + 1 ≤ now ∧ (dueA (leftA (allA M) was) now)[k]'(by unfold numsA at hk; simpa using hk) = ⟨(j : Int), M[j] + 1⟩ := by
  have hk' : k < (dueA (leftA (allA M) was) now).length := by unfold numsA at hk; simpa using hk
  obtain ⟨j, hj, e, h1, h2⟩ := all_due M was now k hk'
  refine ⟨j, hj, ?_, h1, h2, e⟩
  have : (numsA (dueA (leftA (allA M) was) now))[k] = (dueA (leftA (allA M) was) now)[k].num := by simp [numsA]
  rw [this, e]
theorem due_next (M : List Int) (was now : Int) (k : Nat) (hk : k + 1 < (numsA (dueA (leftA (allA M) was) now)).length) (i j : Nat) (hi : i < M.length) (hj : j < M.length) (h1 : (dueA (leftA (allA M) was) now)[k]'(by unfold numsA at hk; simp at hk; omega) = ⟨(i : Int), M[i] + 1⟩) (h2 : (dueA (leftA (allA M) was) now)[k + 1]'(by unfold numsA at hk; simpa using hk) = ⟨(j : Int), M[j] + 1⟩) : M[i] + 1 < M[j] + 1 ∨ (M[i] + 1 = M[j] + 1 ∧ (i : Int) < (j : Int)) := by
  have := all_order M was now k (by unfold numsA at hk; simpa using hk)
  rw [h1, h2] at this
  exact this
set_option maxRecDepth 100000 in
set_option maxHeartbeats 16000000 in
theorem wheelDue (kA0 : AwakeC11) (K : WheelC) (L : List Int) (A : Option Addr) (c : Nat) (T : List Int) (B : Option Addr) (d : Nat) (w : World) (h : InsAt .u16 w L A c) (hr : ∀ n ∈ L, 0 ≤ n ∧ n ≤ 65535) (hT : InsAt .u16 w T B d) (hrT : ∀ n ∈ T, 0 ≤ n ∧ n ≤ 65535) :
    Calls Try.prog 4 #[.slice A L.length c, .slice B T.length d] w fun e w' => e = .returned (.bool true) ∧ Below w.heap.size w w' := by
  have kA := Go.Lib.hid kA0
  have hcap := h.cap
  have x0 : Below w.heap.size w w := Below.refl _ _
  obtain ⟨M, hM, hml, hmr, hMA, hm, hmc⟩ := h.first200 hr
  have HMR := Go.Lib.hid hmr
  have HTR := Go.Lib.hid hrT
  have HA := Go.Lib.hid hMA
  have HT := Go.Lib.hid hT
  have hTl := hT.len
  have hTc := hT.cap
  have hm0 : (0 : Int) ≤ (M.length : Int) := by omega
  clear kA0 h hr hM hmr hMA hT hrT
  go_enter Try.func4, Try.ntmps4
  go_upto_region 5 with (first
    | (go_at_call 7; refine (kA.out _).mono ?_; rintro e w1 ⟨rfl, y1⟩; have x1 := x0.trans (y1.mono x0.size); dsimp only)
    | (go_at_call 8; refine (K.new w1).mono ?_; rintro e w2 ⟨ad, F2, rfl, r2, f2, y2⟩; have H2 := Go.Lib.hid (WhI.made x1 r2 f2 y2); clear r2 f2 y2; dsimp only))
  try rw [Int.toNat_natCast]
  clear hm
  go_wp2_with fail
  go_loopw [6] (fun iv wr => ∃ (k : Nat) (F : Nat → Prop), k ≤ M.length ∧ iv = .int .i64 k ∧ WhI K w ad ⟨allA (M.take k), 0⟩ F wr) (fun iv _ => M.length - (intOf iv).toNat)
  case atStart => exact ⟨0, F2, by omega, rfl, H2.out⟩
  case round =>
    rename World => wo
    obtain ⟨k, F, hk, rfl, hw⟩ := hrel
    have HW := Go.Lib.hid hw
    have k0 : (0 : Int) ≤ (k : Int) := by omega
    clear hw H2
    by_cases hkl : k < M.length
    · have hkl' : (k : Int) < (M.length : Int) := by omega
      obtain ⟨adA, rfl, hcA⟩ := HA.out.cell hkl
      have ca := hcA wo HW.out.below
      have hst := Go.Lib.hid (all_set M HMR.out hml k hkl)
      obtain ⟨n0, n1⟩ := HMR.out M[k] (List.getElem_mem hkl)
      generalize M[k] = n at *
      have e1 : IntKind.i64.wrap n = n := IntWalk.i64_in _ (by omega)
      have e2 : IntKind.i64.wrap (n + 1) = n + 1 := IntWalk.i64_in _ (by omega)
      have e3 : IntKind.i64.wrap ((k : Int) + 1) = (k : Int) + 1 := IntWalk.i64_in _ (by omega)
      clear hcA
      go_wp2_with (go_at_call 10; refine (K.set HW.out.rep (k : Int) (n + 1) (⟨allA (M.take (k + 1)), 0⟩, 0) hst.out).mono ?_; rintro e w3 ⟨F3, rfl, r3, n3, m3⟩; have H3 := Go.Lib.hid (HW.out.turn r3 n3 m3); clear r3 n3 m3; dsimp only)
      go_round
      case rel => exact ⟨k + 1, F3, by omega, by go_num, H3.out⟩
      case measure => simp [intOf]; omega
    · obtain rfl : k = M.length := by omega
      have hkl' : ¬ (M.length : Int) < (M.length : Int) := by omega
      have H0 : Hid (WhI K w ad ⟨leftA (allA M) 0, 0⟩ F wo) := Go.Lib.hid (by have q := HW.out; rw [List.take_length] at q; rw [all_left M HMR.out]; exact q)
      have HK0 : Hid (0 + (leftA (allA M) 0).length = M.length) := Go.Lib.hid (by rw [all_left M HMR.out, all_length]; omega)
      clear HW
      go_wp2_with fail
      go_loopw [7, 8, 9] (fun nv sv iv wr => ∃ (i seen : Nat) (now : Int) (F : Nat → Prop), i ≤ T.length ∧ i ≤ 50 ∧ iv = .int .i64 i ∧ sv = .int .i64 seen ∧ nv = .int .i64 now ∧ 0 ≤ now ∧ now ≤ 65535 * (i : Int) ∧ seen + (leftA (allA M) now).length = M.length ∧ WhI K w ad ⟨leftA (allA M) now, now⟩ F wr) (fun _ _ iv _ => T.length - (intOf iv).toNat)
      case atStart => exact ⟨0, 0, 0, F, by omega, by omega, rfl, rfl, rfl, by omega, by omega, HK0.out, H0.out⟩
      case round =>
        rename World => wp
        clear HK0 H0 F
        obtain ⟨i, seen, was, G, hi, hi50, rfl, rfl, rfl, hw0, hw1, hsn, hw⟩ := hrel
        have HW := Go.Lib.hid hw
        have HSN := Go.Lib.hid hsn
        have i0 : (0 : Int) ≤ (i : Int) := by omega
        clear hw hsn hkl'
        by_cases hil : i < T.length ∧ i < 50
        · obtain ⟨hil, hi5⟩ := hil
          have hil' : (i : Int) < (T.length : Int) := by omega
          have hi5' : (i : Int) < 50 := by omega
          obtain ⟨adT, rfl, hcT⟩ := HT.out.cell hil
          have ct := hcT wp HW.out.below
          obtain ⟨t0, t1⟩ := HTR.out T[i] (List.getElem_mem hil)
          generalize T[i] = tk at *
          have e1 : IntKind.i64.wrap tk = tk := IntWalk.i64_in _ (by omega)
          obtain ⟨now, hnow⟩ : ∃ now, was + tk = now := ⟨_, rfl⟩
          have e2 : IntKind.i64.wrap (was + tk) = now := by rw [hnow]; exact IntWalk.i64_in _ (by omega)
          have e3 : IntKind.i64.wrap ((i : Int) + 1) = (i : Int) + 1 := IntWalk.i64_in _ (by omega)
          obtain ⟨O, hO⟩ : ∃ O, numsA (dueA (leftA (allA M) was) now) = O := ⟨_, rfl⟩
          have HTK : Hid (tickH ⟨leftA (allA M) was, was⟩ now = (⟨leftA (allA M) now, now⟩, O, 0)) := Go.Lib.hid (by rw [← hO]; exact tick_left M hw0 (by omega) (by omega))
          have HCN : Hid (O.length + (leftA (allA M) now).length = (leftA (allA M) was).length) := Go.Lib.hid (by rw [← hO]; exact due_count M was now (by omega))
          have HO := Go.Lib.hid hO
          have hol : O.length ≤ 200 := by have h1 := HCN.out; have h2 := HSN.out; omega
          have hnw : now ≤ 65535 * ((i : Int) + 1) := by omega
          have hnw0 : 0 ≤ now := by omega
          clear hO hcT hnow
          go_upto_region 19 with (go_at_call 14; refine (K.tick HW.out.rep now (⟨leftA (allA M) now, now⟩, O, 0) HTK.out).mono ?_; rintro e w4 ⟨F4, A4, c4, rfl, d4, r4, n4, m4⟩; have H4 := Go.Lib.hid (HW.out.turn r4 n4 m4); have D4 := Go.Lib.hid d4.ins; clear r4 n4 m4 d4; dsimp only)
          clear ct e1 e2
          go_wp2_with fail
          go_loopw [13] (fun kv wr => ∃ k : Nat, k ≤ O.length ∧ kv = .int .i64 k ∧ Below w4.heap.size w4 wr) (fun kv _ => O.length - (intOf kv).toNat)
          case atStart => exact ⟨0, by omega, rfl, Below.refl _ _⟩
          case round =>
            rename World => wq
            obtain ⟨k, hk, rfl, y6⟩ := hrel
            have k0 : (0 : Int) ≤ (k : Int) := by omega
            have x6 := H4.out.below.trans (y6.mono H4.out.below.size)
            by_cases hko : k < O.length
            · have hko' : (k : Int) < (O.length : Int) := by omega
              obtain ⟨adO, rfl, hcO⟩ := D4.out.cell hko
              have co := hcO wq y6
              obtain ⟨j, hjm, hj, hj1, hj2, hje⟩ := due_num M was now k (by rw [HO.out]; exact hko)
              have hj : O[k] = (j : Int) := by
                have q := HO.out
                subst q
                exact hj
              rw [hj] at co
              have j0 : ¬ (j : Int) < 0 := by omega
              have j00 : (0 : Int) ≤ (j : Int) := by omega
              have j1 : ¬ (M.length : Int) ≤ (j : Int) := by omega
              have j2 : (j : Int) < (M.length : Int) := by omega
              have e4 : IntKind.i64.wrap ((k : Int) + 1) = (k : Int) + 1 := IntWalk.i64_in _ (by omega)
              obtain ⟨adA, rfl, hcA⟩ := HA.out.cell hjm
              have ca := hcA wq x6
              obtain ⟨n0, n1⟩ := HMR.out M[j] (List.getElem_mem hjm)
              obtain ⟨n, hn⟩ : ∃ n, M[j] = n := ⟨_, rfl⟩
              have HN := Go.Lib.hid hn
              have HJE := Go.Lib.hid hje
              rw [hn] at ca hj1 hj2 n0 n1
              have e5 : IntKind.i64.wrap n = n := IntWalk.i64_in _ (by omega)
              have e6 : IntKind.i64.wrap (n + 1) = n + 1 := IntWalk.i64_in _ (by omega)
              have g1 : ¬ now < n + 1 := by omega
              have g2 : ¬ n + 1 ≤ was := by omega
              clear hcO hcA hj hje hn
              rcases k with _ | p
              · have z0 : ¬ (0 : Int) < ((0 : Nat) : Int) := by omega
                rw [addr_zero] at co
                go_wp2_with fail
                go_round
                case rel => exact ⟨1, by omega, by go_num, y6⟩
                case measure => simp [intOf]; omega
              · have z0 : (0 : Int) < ((p + 1 : Nat) : Int) := by omega
                rw [add_pos adO (p + 1) (by omega)] at co
                have hpo : p < O.length := by omega
                obtain ⟨adO', e', hcO'⟩ := D4.out.cell hpo
                injection e' with e'
                subst e'
                have co2 := hcO' wq y6
                obtain ⟨j', hjm', hj', _, _, hje'⟩ := due_num M was now p (by rw [HO.out]; exact hpo)
                have hj' : O[p] = (j' : Int) := by
                  have q := HO.out
                  subst q
                  exact hj'
                rw [hj'] at co2
                obtain ⟨adA', e', hcA'⟩ := HA.out.cell hjm'
                injection e' with e'
                subst e'
                have ca2 := hcA' wq x6
                obtain ⟨m0, m1⟩ := HMR.out M[j'] (List.getElem_mem hjm')
                have hord := due_next M was now p (by rw [HO.out]; exact hko) j' j hjm' hjm hje' HJE.out
                rw [HN.out] at hord
                generalize M[j'] = n' at *
                have j20 : (0 : Int) ≤ (j' : Int) := by omega
                have j22 : (j' : Int) < (M.length : Int) := by omega
                have p0 : (0 : Int) ≤ (p : Int) := by omega
                have p1 : (p : Int) < (O.length : Int) := by omega
                have e7 : IntKind.i64.wrap n' = n' := IntWalk.i64_in _ (by omega)
                have e8 : IntKind.i64.wrap (n' + 1) = n' + 1 := IntWalk.i64_in _ (by omega)
                have e9 : IntKind.i64.wrap (((p + 1 : Nat) : Int) - 1) = (p : Int) := by rw [show ((p + 1 : Nat) : Int) - 1 = (p : Int) by omega]; exact IntWalk.i64_in _ (by omega)
                have e10 : IntKind.i64.wrap (p : Int) = (p : Int) := IntWalk.i64_in _ (by omega)
                clear hcO' hcA' hj' hje' HJE
                have g3 : ¬ n + 1 < n' + 1 := by omega
                by_cases heq : n' = n
                · subst heq
                  have g4 : ¬ (j : Int) ≤ (j' : Int) := by omega
                  clear hord
                  go_upto_region 29 with fail
                  go_quiet (fail)
                  go_wp2_with fail
                  go_round
                  case rel => exact ⟨p + 1 + 1, by omega, by go_num, below_dn y6 _⟩
                  case measure => simp [intOf]; omega
                · have g4 : (n' + 1 == n + 1) = false := by simpa using heq
                  clear hord
                  go_upto_region 29 with fail
                  go_quiet (fail)
                  go_wp2_with fail
                  go_round
                  case rel => exact ⟨p + 1 + 1, by omega, by go_num, below_dn y6 _⟩
                  case measure => simp [intOf]; omega
            · obtain rfl : k = O.length := by omega
              have hko' : ¬ (O.length : Int) < (O.length : Int) := by omega
              have H6 := Go.Lib.hid (H4.out.call y6)
              have HSN2 : Hid ((seen + O.length) + (leftA (allA M) now).length = M.length) := Go.Lib.hid (by have h1 := HSN.out; have h2 := HCN.out; omega)
              have e4 : IntKind.i64.wrap ((seen : Int) + (O.length : Int)) = (seen : Int) + (O.length : Int) := IntWalk.i64_in _ (by have := HSN2.out; omega)
              have e5 : IntKind.i64.wrap ((M.length : Int) - ((seen : Int) + (O.length : Int))) = ((leftA (allA M) now).length : Int) := by rw [show (M.length : Int) - ((seen : Int) + (O.length : Int)) = ((leftA (allA M) now).length : Int) by have := HSN2.out; omega]; exact IntWalk.i64_in _ (by have := HSN2.out; omega)
              go_wp2_with (go_at_call 18; refine (K.waits H6.out.rep ((leftA (allA M) now).length : Int) rfl).mono ?_; rintro e w7 ⟨rfl, y7⟩; have H7 := Go.Lib.hid (H6.out.call y7); dsimp only)
              go_round
              case rel => exact ⟨i + 1, seen + O.length, now, F4, by omega, by omega, by go_num, by go_num, rfl, hnw0, by omega, HSN2.out, H7.out⟩
              case measure => simp [intOf]; omega
        · have hcond : (i : Int) < (T.length : Int) → ¬ (i : Int) < 50 := by omega
          clear hil
          by_cases hil : (i : Int) < (T.length : Int)
          · have hi5 := hcond hil
            clear hcond
            go_wp2_with fail
            go_loopw [16] (fun kv wr => ∃ k : Nat, k ≤ M.length ∧ kv = .int .i64 k ∧ Below wp.heap.size wp wr) (fun kv _ => M.length - (intOf kv).toNat)
            case atStart => exact ⟨0, by omega, rfl, Below.refl _ _⟩
            case round =>
              rename World => wq
              obtain ⟨k, hk, rfl, y6⟩ := hrel
              have k0 : (0 : Int) ≤ (k : Int) := by omega
              have H6 := Go.Lib.hid (HW.out.call y6)
              by_cases hkm : k < M.length
              · have hkm' : (k : Int) < (M.length : Int) := by omega
                obtain ⟨adA, rfl, hcA⟩ := HA.out.cell hkm
                have hwn := all_when M was was k hkm
                obtain ⟨n0, n1⟩ := HMR.out M[k] (List.getElem_mem hkm)
                have hc2 := hcA
                generalize M[k] = n at *
                have e1 : IntKind.i64.wrap n = n := IntWalk.i64_in _ (by omega)
                have e2 : IntKind.i64.wrap (n + 1) = n + 1 := IntWalk.i64_in _ (by omega)
                have e3 : IntKind.i64.wrap ((k : Int) + 1) = (k : Int) + 1 := IntWalk.i64_in _ (by omega)
                by_cases hgt : was < n + 1
                · rw [if_pos hgt] at hwn
                  have HWN := Go.Lib.hid hwn
                  clear hwn
                  go_wp2_with (go_at_call 16; refine (K.when_ H6.out.rep (k : Int) (by unfold I64; omega) (n + 1, true) HWN.out).mono ?_; rintro e w7 ⟨rfl, y7⟩; have H7 := Go.Lib.hid (H6.out.call y7); have ca := hcA w7 H7.out.below; have y8 := y6.trans (y7.mono y6.size); dsimp only)
                  go_round
                  case rel => exact ⟨k + 1, by omega, by go_num, y8⟩
                  case measure => simp [intOf]; omega
                · rw [if_neg hgt] at hwn
                  have HWN := Go.Lib.hid hwn
                  clear hwn
                  go_wp2_with (go_at_call 16; refine (K.when_ H6.out.rep (k : Int) (by unfold I64; omega) (0, false) HWN.out).mono ?_; rintro e w7 ⟨rfl, y7⟩; have H7 := Go.Lib.hid (H6.out.call y7); have ca := hcA w7 H7.out.below; have y8 := y6.trans (y7.mono y6.size); dsimp only)
                  go_round
                  case rel => exact ⟨k + 1, by omega, by go_num, y8⟩
                  case measure => simp [intOf]; omega
              · obtain rfl : k = M.length := by omega
                have hkm' : ¬ (M.length : Int) < (M.length : Int) := by omega
                go_wp2
                go_ret
                exact ⟨rfl, H6.out.below⟩
          · clear hcond
            go_wp2_with fail
            go_loopw [16] (fun kv wr => ∃ k : Nat, k ≤ M.length ∧ kv = .int .i64 k ∧ Below wp.heap.size wp wr) (fun kv _ => M.length - (intOf kv).toNat)
            case atStart => exact ⟨0, by omega, rfl, Below.refl _ _⟩
            case round =>
              rename World => wq
              obtain ⟨k, hk, rfl, y6⟩ := hrel
              have k0 : (0 : Int) ≤ (k : Int) := by omega
              have H6 := Go.Lib.hid (HW.out.call y6)
              by_cases hkm : k < M.length
              · have hkm' : (k : Int) < (M.length : Int) := by omega
                obtain ⟨adA, rfl, hcA⟩ := HA.out.cell hkm
                have hwn := all_when M was was k hkm
                obtain ⟨n0, n1⟩ := HMR.out M[k] (List.getElem_mem hkm)
                have hc2 := hcA
                generalize M[k] = n at *
                have e1 : IntKind.i64.wrap n = n := IntWalk.i64_in _ (by omega)
                have e2 : IntKind.i64.wrap (n + 1) = n + 1 := IntWalk.i64_in _ (by omega)
                have e3 : IntKind.i64.wrap ((k : Int) + 1) = (k : Int) + 1 := IntWalk.i64_in _ (by omega)
                by_cases hgt : was < n + 1
                · rw [if_pos hgt] at hwn
                  have HWN := Go.Lib.hid hwn
                  clear hwn
                  go_wp2_with (go_at_call 16; refine (K.when_ H6.out.rep (k : Int) (by unfold I64; omega) (n + 1, true) HWN.out).mono ?_; rintro e w7 ⟨rfl, y7⟩; have H7 := Go.Lib.hid (H6.out.call y7); have ca := hcA w7 H7.out.below; have y8 := y6.trans (y7.mono y6.size); dsimp only)
                  go_round
                  case rel => exact ⟨k + 1, by omega, by go_num, y8⟩
                  case measure => simp [intOf]; omega
                · rw [if_neg hgt] at hwn
                  have HWN := Go.Lib.hid hwn
                  clear hwn
                  go_wp2_with (go_at_call 16; refine (K.when_ H6.out.rep (k : Int) (by unfold I64; omega) (0, false) HWN.out).mono ?_; rintro e w7 ⟨rfl, y7⟩; have H7 := Go.Lib.hid (H6.out.call y7); have ca := hcA w7 H7.out.below; have y8 := y6.trans (y7.mono y6.size); dsimp only)
                  go_round
                  case rel => exact ⟨k + 1, by omega, by go_num, y8⟩
                  case measure => simp [intOf]; omega
              · obtain rfl : k = M.length := by omega
                have hkm' : ¬ (M.length : Int) < (M.length : Int) := by omega
                go_wp2
                go_ret
                exact ⟨rfl, H6.out.below⟩
end Go.Proofs.Ytebmomanpkmloaa
