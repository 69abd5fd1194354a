/- The document's own answers for package route: Right. -/
import Derived.Test.YtalmknbcfgndkaaRouteV
import Derived.Deep.RegionHeld3
namespace Go.Proofs.Ytalmknbcfgndkaa
open Go.ChangeShapes Go.WideShapes Go.ChangeAt Go.RowKit
set_option linter.unusedVariables false
set_option linter.unusedSimpArgs false

theorem emod_leR {a p : Int} (h : 0 ≤ a) (hp : 0 < p) : a % p ≤ a := by
  have h1 := Int.mul_ediv_add_emod a p
  have h2 : 0 ≤ p * (a / p) := Int.mul_nonneg (Int.le_of_lt hp) (Int.ediv_nonneg h (Int.le_of_lt hp))
  omega
theorem rem_u64 {a p : Int} (h : 0 ≤ a ∧ a ≤ 4294967295) (hp : 0 < p) : IntKind.u64.wrap (Int.tmod a p) = a % p := by
  rw [Int.tmod_eq_emod_of_nonneg h.1]
  have h1 := Int.emod_nonneg a (Int.ne_of_gt hp)
  have h2 := emod_leR (p := p) h.1 hp
  exact IntWalk.u64_in _ (by omega)
theorem pow_leR {j d : Nat} (h : j ≤ d) : (2 : Int) ^ j ≤ 2 ^ d := by
  have := Nat.pow_le_pow_right (n := 2) (by decide) h
  exact_mod_cast this
set_option maxRecDepth 100000 in
set_option maxHeartbeats 8000000 in
theorem rright13 (l : List Rt) (A : Option Addr) (c N : Nat) (hN : l.length = N) (w : World) (h : RtsAt w l A c) (q : Bool) (hq : rightR l = q) :
    Calls Try.prog 11 #[.slice A N c] w fun e w' => e = .returned (.bool q) ∧ Below w.heap.size w w' := by
  subst hN
  have HQ0 := Go.Lib.hid hq
  have HC := Go.Lib.hid h
  have hlc := h.len
  have hcc := h.cap
  clear hq h
  go_enter Try.func11, Try.ntmps11
  go_wp2_with fail
  go_loopw [3] (fun iv wr => ∃ k : Nat, iv = .int .i64 k ∧ k ≤ l.length ∧ Hid (∀ j, j < k → okAt l j = true) ∧ Below w.heap.size w wr) (fun iv _ => l.length - (intOf iv).toNat)
  case atStart => exact ⟨0, rfl, by omega, Go.Lib.hid (fun j hj => by omega), Below.refl _ _⟩
  case round =>
    rename World => wo
    obtain ⟨k, rfl, hk, HK, yo⟩ := hrel
    have k0 : (0 : Int) ≤ (k : Int) := by omega
    by_cases hkl : k < l.length
    · have t1 : (k : Int) < (l.length : Int) := by omega
      obtain ⟨ad, rfl, hcell⟩ := HC.out.cell hkl
      obtain ⟨r, hr⟩ : ∃ r, l[k] = r := ⟨_, rfl⟩
      have HR : Hid (atR l k = r) := Go.Lib.hid (by rw [atR_get hkl]; exact hr)
      have hrn := (HC.out.rng _ (List.getElem_mem hkl)).net
      rw [hr] at hcell hrn
      have HW := Go.Lib.hid (hcell wo yo)
      have y2 : Below w.heap.size w (wo.alloc (oRt r)) := below_alloc yo yo.size _
      have hbx := Bxo.made wo 26 (rtL r)
      clear hcell hr
      go_upto_region 5 with (refine wpList_load_at rfl 26 _ rfl (ad.add (k * 4)) rfl (rtL r) _ HW.out Try.underlying26 rfl info_rt ?_)
      generalize wo.alloc (oRt r) = W at *
      generalize wo.heap.size = g at *
      have HB := Go.Lib.hid (show Bxo W g 26 (rtL r) from hbx)
      obtain ⟨net, bits, zone, mtu⟩ := r
      dsimp only at hrn
      have c0 := HB.out.cell 0 rfl
      have c1 := HB.out.cell 1 rfl
      have c2 := HB.out.cell 2 rfl
      have c3 := HB.out.cell 3 rfl
      dsimp only at c0 c1 c2 c3
      clear hbx HW
      by_cases a1 : 64 ≤ k
      · have a1' : (64 : Int) ≤ (k : Int) := by omega
        have HQ : Hid (q = false) := Go.Lib.hid (by
          rw [← HQ0.out]
          cases hr : rightR l
          · rfl
          · exfalso
            unfold rightR at hr
            rw [List.all_eq_true] at hr
            have h1 := hr k (List.mem_range.2 hkl)
            unfold okAt at h1
            rw [Bool.and_eq_true, Bool.and_eq_true, decide_eq_true_eq, HR.out, okR_iff] at h1
            dsimp only at h1
            omega)
        go_wp2_with fail
        go_ret
        exact ⟨by rw [HQ.out]; rfl, y2⟩
      have a1' : ¬ (64 : Int) ≤ (k : Int) := by omega
      by_cases a2 : bits < 0
      · have HQ : Hid (q = false) := Go.Lib.hid (by
          rw [← HQ0.out]
          cases hr : rightR l
          · rfl
          · exfalso
            unfold rightR at hr
            rw [List.all_eq_true] at hr
            have h1 := hr k (List.mem_range.2 hkl)
            unfold okAt at h1
            rw [Bool.and_eq_true, Bool.and_eq_true, decide_eq_true_eq, HR.out, okR_iff] at h1
            dsimp only at h1
            omega)
        go_wp2_with fail
        go_ret
        exact ⟨by rw [HQ.out]; rfl, y2⟩
      by_cases a3 : 32 < bits
      · have HQ : Hid (q = false) := Go.Lib.hid (by
          rw [← HQ0.out]
          cases hr : rightR l
          · rfl
          · exfalso
            unfold rightR at hr
            rw [List.all_eq_true] at hr
            have h1 := hr k (List.mem_range.2 hkl)
            unfold okAt at h1
            rw [Bool.and_eq_true, Bool.and_eq_true, decide_eq_true_eq, HR.out, okR_iff] at h1
            dsimp only at h1
            omega)
        go_wp2_with fail
        go_ret
        exact ⟨by rw [HQ.out]; rfl, y2⟩
      by_cases a4 : zone < 0
      · have HQ : Hid (q = false) := Go.Lib.hid (by
          rw [← HQ0.out]
          cases hr : rightR l
          · rfl
          · exfalso
            unfold rightR at hr
            rw [List.all_eq_true] at hr
            have h1 := hr k (List.mem_range.2 hkl)
            unfold okAt at h1
            rw [Bool.and_eq_true, Bool.and_eq_true, decide_eq_true_eq, HR.out, okR_iff] at h1
            dsimp only at h1
            omega)
        go_wp2_with fail
        go_ret
        exact ⟨by rw [HQ.out]; rfl, y2⟩
      by_cases a5 : 7 < zone
      · have HQ : Hid (q = false) := Go.Lib.hid (by
          rw [← HQ0.out]
          cases hr : rightR l
          · rfl
          · exfalso
            unfold rightR at hr
            rw [List.all_eq_true] at hr
            have h1 := hr k (List.mem_range.2 hkl)
            unfold okAt at h1
            rw [Bool.and_eq_true, Bool.and_eq_true, decide_eq_true_eq, HR.out, okR_iff] at h1
            dsimp only at h1
            omega)
        go_wp2_with fail
        go_ret
        exact ⟨by rw [HQ.out]; rfl, y2⟩
      by_cases a6 : mtu < 68
      · have HQ : Hid (q = false) := Go.Lib.hid (by
          rw [← HQ0.out]
          cases hr : rightR l
          · rfl
          · exfalso
            unfold rightR at hr
            rw [List.all_eq_true] at hr
            have h1 := hr k (List.mem_range.2 hkl)
            unfold okAt at h1
            rw [Bool.and_eq_true, Bool.and_eq_true, decide_eq_true_eq, HR.out, okR_iff] at h1
            dsimp only at h1
            omega)
        go_wp2_with fail
        go_ret
        exact ⟨by rw [HQ.out]; rfl, y2⟩
      by_cases a7 : 65535 < mtu
      · have HQ : Hid (q = false) := Go.Lib.hid (by
          rw [← HQ0.out]
          cases hr : rightR l
          · rfl
          · exfalso
            unfold rightR at hr
            rw [List.all_eq_true] at hr
            have h1 := hr k (List.mem_range.2 hkl)
            unfold okAt at h1
            rw [Bool.and_eq_true, Bool.and_eq_true, decide_eq_true_eq, HR.out, okR_iff] at h1
            dsimp only at h1
            omega)
        go_wp2_with fail
        go_ret
        exact ⟨by rw [HQ.out]; rfl, y2⟩
      obtain ⟨d, hd⟩ : ∃ d, (32 - bits).toNat = d := ⟨_, rfl⟩
      have HD := Go.Lib.hid hd
      have hdb : bits + (d : Int) = 32 := by omega
      have HPB : Hid (powR bits = 2 ^ d) := Go.Lib.hid (by unfold powR; rw [hd])
      clear hd
      go_wp2_with fail
      go_loop [5, 6] (fun lv kv => ∃ (j : Nat) (p m : Int), lv = .int .u64 p ∧ kv = .int .i64 m ∧ Hid (p = 2 ^ j ∧ m = bits + (j : Int)) ∧ j ≤ d ∧ (1 ≤ p ∧ p ≤ 4294967296) ∧ (0 ≤ m ∧ m ≤ 32)) (fun _ kv => 32 - (intOf kv).toNat)
      case atStart => exact ⟨0, 1, bits, rfl, rfl, Go.Lib.hid ⟨rfl, by simp⟩, by omega, by omega, by omega⟩
      case round =>
        obtain ⟨j, p, m, rfl, rfl, HJ, hj, hp, hm⟩ := hrel
        by_cases hjd : m < 32
        · have hjd2 : j < d := by have := HJ.out.2; omega
          have hp2 : p * 2 ≤ 4294967296 := by
            have e : p * 2 = 2 ^ (j + 1) := by rw [HJ.out.1, Int.pow_succ]
            rw [e]
            exact pow_leR (d := 32) (by omega)
          have e1 : IntKind.u64.wrap (p * 2) = p * 2 := IntWalk.u64_in _ (by omega)
          go_wp2_with fail
          go_round
          case rel => exact ⟨j + 1, p * 2, m + 1, rfl, by go_num, Go.Lib.hid ⟨by rw [HJ.out.1, Int.pow_succ], by have := HJ.out.2; omega⟩, by omega, by omega, by omega⟩
          case measure => simp [intOf]; omega
        · have hjd2 : j = d := by have := HJ.out.2; omega
          have HP : Hid (powR bits = p) := Go.Lib.hid (by rw [HPB.out, HJ.out.1, hjd2])
          have e2 : IntKind.u64.wrap net = net := IntWalk.u64_in _ (by omega)
          have e3 : IntKind.u64.wrap (Int.tmod net p) = net % p := rem_u64 hrn (by omega)
          have e4 : ¬ p = 0 := by omega
          clear hjd2
          by_cases hz : net % p = 0
          · have tz : (net % p != 0) = false := by simp [hz]
            have HOK : Hid (okR ⟨net, bits, zone, mtu⟩ = true) := Go.Lib.hid ((okR_iff _).2 ⟨⟨by dsimp only; omega, by dsimp only; omega⟩, ⟨by dsimp only; omega, by dsimp only; omega⟩, ⟨by dsimp only; omega, by dsimp only; omega⟩, by dsimp only; rw [HP.out]; exact hz⟩)
            clear a2 a3 a4 a5 a6 a7 hz hdb hm
            go_wp2_with fail
            go_loopw [7] (fun jv wr => ∃ i : Nat, jv = .int .i64 i ∧ i ≤ k ∧ Hid (∀ j, j < i → sameN (atR l j) (atR l k) = false) ∧ Below W.heap.size W wr) (fun jv _ => k - (intOf jv).toNat)
            case atStart => exact ⟨0, rfl, by omega, Go.Lib.hid (fun j hj => by omega), Below.refl _ _⟩
            case round =>
              rename World => wi
              obtain ⟨i, rfl, hi, HI, yi⟩ := hrel
              have HBi := Go.Lib.hid (HB.out.keep yi HB.out.lt)
              have c0 := HBi.out.cell 0 rfl
              have c1 := HBi.out.cell 1 rfl
              dsimp only at c0 c1
              have yw := y2.trans (yi.mono y2.size)
              have i0 : (0 : Int) ≤ (i : Int) := by omega
              by_cases hik : i < k
              · have t2 : (i : Int) < (k : Int) := by omega
                have t3 : (i : Int) < (l.length : Int) := by omega
                obtain ⟨ad', e', hcs⟩ := HC.out.cells (show i < l.length by omega)
                cases e'
                obtain ⟨d0, d1⟩ := hcs wi yw
                obtain ⟨s, hs⟩ : ∃ s, l[i] = s := ⟨_, rfl⟩
                rw [hs] at d0 d1
                have HS : Hid (atR l i = s) := Go.Lib.hid (by rw [atR_get (by omega)]; exact hs)
                obtain ⟨snet, sbits, sz, sm⟩ := s
                dsimp only at d0 d1
                clear hcs hs c2 c3
                by_cases b1 : snet = net
                · have t4 : (snet == net) = true := by simpa using b1
                  by_cases b2 : sbits = bits
                  · have t5 : (sbits == bits) = true := by simpa using b2
                    have HQ : Hid (q = false) := Go.Lib.hid (by
                      rw [← HQ0.out]
                      cases hr : rightR l
                      · rfl
                      · exfalso
                        unfold rightR at hr
                        rw [List.all_eq_true] at hr
                        have h1 := hr k (List.mem_range.2 hkl)
                        unfold okAt newAt at h1
                        rw [Bool.and_eq_true, Bool.and_eq_true, List.all_eq_true] at h1
                        have h2 := h1.2.2 i (List.mem_range.2 hik)
                        rw [HS.out, HR.out] at h2
                        rw [(sameN_iff _ _).2 ⟨b1, b2⟩] at h2
                        cases h2)
                    clear b1 b2
                    go_upto_region 17 with fail
                    go_quiet (fail)
                    go_wp2
                    go_ret
                    exact ⟨by rw [HQ.out]; rfl, below_dn yw _⟩
                  · have t5 : (sbits == bits) = false := by simpa using b2
                    have HNE := Go.Lib.hid b2
                    clear b1 b2
                    go_upto_region 17 with fail
                    go_quiet (fail)
                    go_wp2
                    go_round
                    case rel => exact ⟨i + 1, by go_num, by omega, Go.Lib.hid (fun j hj => by
                      by_cases e : j = i
                      · rw [e, HS.out, HR.out]
                        cases hx : sameN ⟨snet, sbits, sz, sm⟩ ⟨net, bits, zone, mtu⟩
                        · rfl
                        · exact absurd ((sameN_iff _ _).1 hx).2 HNE.out
                      · exact HI.out j (by omega)), below_dn yi _⟩
                    case measure => simp [intOf]; omega
                · have t4 : (snet == net) = false := by simpa using b1
                  have HNE := Go.Lib.hid b1
                  clear b1
                  go_upto_region 17 with fail
                  go_quiet (fail)
                  go_wp2
                  go_round
                  case rel => exact ⟨i + 1, by go_num, by omega, Go.Lib.hid (fun j hj => by
                    by_cases e : j = i
                    · rw [e, HS.out, HR.out]
                      cases hx : sameN ⟨snet, sbits, sz, sm⟩ ⟨net, bits, zone, mtu⟩
                      · rfl
                      · exact absurd ((sameN_iff _ _).1 hx).1 HNE.out
                    · exact HI.out j (by omega)), below_dn yi _⟩
                  case measure => simp [intOf]; omega
              · have t2 : ¬ (i : Int) < (k : Int) := by omega
                have HIK : Hid (i = k) := Go.Lib.hid (by omega)
                go_wp2_with fail
                go_round
                case rel => exact ⟨k + 1, by go_num, by omega, Go.Lib.hid (fun j hj => by
                  by_cases e : j = k
                  · rw [e]
                    unfold okAt newAt
                    rw [Bool.and_eq_true, Bool.and_eq_true, decide_eq_true_eq, List.all_eq_true]
                    refine ⟨by omega, by rw [HR.out]; exact HOK.out, fun m hm => ?_⟩
                    rw [HI.out m (by have := List.mem_range.1 hm; have := HIK.out; omega)]
                    rfl
                  · exact HK.out j (by omega)), yw⟩
                case measure => simp [intOf]; omega
          · have tz : (net % p != 0) = true := by simpa using hz
            have HQ : Hid (q = false) := Go.Lib.hid (by
              rw [← HQ0.out]
              cases hr : rightR l
              · rfl
              · exfalso
                unfold rightR at hr
                rw [List.all_eq_true] at hr
                have h1 := hr k (List.mem_range.2 hkl)
                unfold okAt at h1
                rw [Bool.and_eq_true, Bool.and_eq_true, decide_eq_true_eq, HR.out, okR_iff] at h1
                dsimp only at h1
                exact hz (by rw [← HP.out]; exact h1.2.1.2.2.2))
            go_wp2_with fail
            go_ret
            exact ⟨by rw [HQ.out]; rfl, y2⟩
    · obtain rfl : k = l.length := by omega
      have t1 : ¬ (l.length : Int) < (l.length : Int) := by omega
      have HQ : Hid (q = true) := Go.Lib.hid (by rw [← HQ0.out]; unfold rightR; rw [List.all_eq_true]; exact fun j hj => HK.out j (List.mem_range.1 hj))
      go_wp2_with fail
      go_ret
      exact ⟨by rw [HQ.out]; rfl, yo⟩
end Go.Proofs.Ytalmknbcfgndkaa
