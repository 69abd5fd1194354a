/- Contracts of the document's own answers for package tcp: are options right? -/
import Derived.Test.YtghgemmbbedopaaRows
import Derived.WalkKit
import Derived.ProofKit
import Derived.OpenShut
import Derived.Below
import Derived.Deep.QuietTactic
import Derived.BigQuiet
import Derived.OwnWalk
import Derived.Maps.AppendAt
import Derived.Deep.DeepCutAuto
import Derived.Deep.CutBlock
import Derived.Test.YtghgemmbbedopaaCsumR
import Derived.Test.YtghgemmbbedopaaTcpMem
namespace Go.Proofs.Ytghgemmbbedopaa
open Go.ChangeShapes Go.WideShapes Go.ChangeAt Go.RowKit
set_option linter.unusedVariables false

theorem not_good {os : List Op} {k : Nat} (hk : k < os.length) (h : ¬ Good os k hk) : false = rightB os := by
  have h1 : goodAt os k = false := by
    cases e : goodAt os k
    · rfl
    · exact absurd ((goodAt_iff os k hk).1 e) h
  cases e : rightB os
  · rfl
  · rw [(rightB_iff os).1 e k hk] at h1; cases h1

theorem ok2 {d : Nat} (h : ((d : Int) != 2) = false) : okLen 2 d = true := by simp at h; simp [okLen]; omega
theorem ok3 {d : Nat} (h : ((d : Int) != 1) = false) : okLen 3 d = true := by simp at h; simp [okLen]; omega
theorem ok4 {d : Nat} (h : ((d : Int) != 0) = false) : okLen 4 d = true := by simp at h; simp [okLen]; omega
theorem ok8 {d : Nat} (h : ((d : Int) != 8) = false) : okLen 8 d = true := by simp at h; simp [okLen]; omega
theorem ok5 {d : Nat} (h : (((d : Int) == 0) = false ∧ (d : Int) ≤ 32) ∧ ((d : Int) % 8 != 0) = false) : okLen 5 d = true := by simp at h; simp [okLen]; omega
theorem okX {kd : Int} {d : Nat} (n2 : (kd == 2) = false) (n3 : (kd == 3) = false) (n4 : (kd == 4) = false) (n5 : (kd == 5) = false) (n8 : (kd == 8) = false) : okLen kd d = true := by
  simp at n2 n3 n4 n5 n8; simp [okLen, n2, n3, n4, n5, n8]
theorem bad2 {d : Nat} (h : ((d : Int) != 2) = true) : okLen 2 d = false := by simp at h; simp [okLen]; omega
theorem bad3 {d : Nat} (h : ((d : Int) != 1) = true) : okLen 3 d = false := by simp at h; simp [okLen]; omega
theorem bad4 {d : Nat} (h : ((d : Int) != 0) = true) : okLen 4 d = false := by simp at h; simp [okLen]; omega
theorem bad8 {d : Nat} (h : ((d : Int) != 8) = true) : okLen 8 d = false := by simp at h; simp [okLen]; omega
theorem bad5a {d : Nat} (h : d = 0) : okLen 5 d = false := by simp [okLen]; omega
theorem bad5b {d : Nat} (h : 32 < (d : Int)) : okLen 5 d = false := by simp [okLen]; omega
theorem bad5c {d : Nat} (h : (((d : Int) == 0) = true ∨ 32 < (d : Int)) ∨ ((d : Int) % 8 != 0) = true) : okLen 5 d = false := by simp at h; simp [okLen]; omega

theorem twin_succ (os : List Op) (i : Nat) (k : Int) (h : i < os.length) : twin os (i + 1) k = (twin os i k || (os[i].kind == k && five k)) := by
  unfold twin
  rw [List.take_succ_eq_append_getElem h, List.any_append]
  simp
theorem twin_mono (os : List Op) (i j : Nat) (k : Int) (h : i ≤ j) (ht : twin os i k = true) : twin os j k = true := by
  unfold twin at *
  rw [List.any_eq_true] at *
  obtain ⟨x, hx, hy⟩ := ht
  exact ⟨x, (List.take_subset_take_left os h) hx, hy⟩
theorem twin_zero (os : List Op) (k : Int) : twin os 0 k = false := by simp [twin]

theorem five_iff (k : Int) : five k = true ↔ (2 ≤ k ∧ k ≤ 5) ∨ k = 8 := by simp [five]

set_option maxRecDepth 100000 in
set_option maxHeartbeats 4000000 in
theorem rright (A : Option Addr) (n c : Nat) (os : List Op) (B : Nat) (w : World) (hn : os.length = n) (h : Os w B A os) (hl : n ≤ 16777216) :
    Calls Try.prog 26 #[.slice A n c] w fun e w' => e = .returned (.bool (rightB os)) ∧ ∃ m, w' = w.drewN m := by
  subst hn
  go_enter Try.func26, Try.ntmps26
  go_wp2
  go_loopw [3, 4] (fun s i wx => ∃ k m : Nat, k ≤ os.length ∧ i = .int .i64 k ∧ s = .int .i64 (olen (os.take k) : Nat) ∧ Hid (∀ j, j < k → goodAt os j = true) ∧ olen (os.take k) ≤ 40 ∧ wx = w.drewN m) (fun _ i _ => os.length - (intOf i).toNat)
  case atStart => exact ⟨0, 0, by omega, rfl, rfl, Go.Lib.hid (fun j hj => by omega), by simp [olen], rfl⟩
  case round =>
    obtain ⟨k, m, hk, rfl, rfl, hG, h40, rfl⟩ := hrel
    by_cases hlt : k < os.length
    · obtain ⟨ad, Ad, cd, rfl, hb, hc0, hc1, hbs, hdl, hcm, hnil⟩ := h.at_ hlt
      have i1 : (0 : Int) ≤ (k : Int) := by omega
      have i2 : (k : Int) < (os.length : Int) := by omega
      generalize hkd : os[k].kind = kd at *
      generalize hdd : os[k].data.length = d at *
      have HKD := Go.Lib.hid hkd
      have HDD := Go.Lib.hid hdd
      clear hkd hdd hnil hbs
      go_wp2
      go_quiet (fail)
      rw [World.drewN_drewN]
      generalize m + nq = m
      by_cases hd : d ≤ 100
      · go_upto_block 2 with fail
        go_cut [] (fun wx => Hid (okLen kd d = true) ∧ wx = w.drewN m)
        case first =>
          have hkk : kd = 2 ∨ kd = 3 ∨ kd = 4 ∨ kd = 5 ∨ kd = 8 ∨ ((kd == 2) = false ∧ (kd == 3) = false ∧ (kd == 4) = false ∧ (kd == 5) = false ∧ (kd == 8) = false) := by
            simp only [beq_eq_false_iff_ne]; omega
          rcases hkk with rfl | rfl | rfl | rfl | rfl | ⟨n2, n3, n4, n5, n8⟩
          all_goals
            go_wp2_with fail
          all_goals first
            | (go_meet; exact ⟨Go.Lib.hid (by first | exact ok2 ‹_› | exact ok3 ‹_› | exact ok4 ‹_› | exact ok5 ‹_› | exact ok8 ‹_› | exact okX n2 n3 n4 n5 n8), rfl⟩)
            | (go_ret
               exact ⟨ret_bool (not_good hlt (fun g => by
                have e := g.len
                rw [HKD.out, HDD.out] at e
                have e2 : okLen _ d = false := (by first | exact bad2 ‹_› | exact bad3 ‹_› | exact bad4 ‹_› | exact bad5a ‹_› | exact bad5b ‹_› | exact bad5c ‹_› | exact bad8 ‹_›)
                rw [e] at e2
                cases e2)), m, rfl⟩)
        case rest =>
          obtain ⟨hok, rfl⟩ := hcut
          clear hc1 hdl hcm hc0
          go_wp2
          go_loop [7] (fun j => ∃ i : Nat, i ≤ k ∧ j = .int .i64 i ∧ Hid (twin os i kd = false)) (fun j => k - (intOf j).toNat)
          case atStart => exact ⟨0, by omega, rfl, Go.Lib.hid (twin_zero os kd)⟩
          case round =>
            obtain ⟨i, hik, rfl, hT⟩ := hrel
            by_cases hil : i < k
            · have hio : i < os.length := by omega
              obtain ⟨ad', Ad', cd', he, _, hc2, _⟩ := h.at_ hio
              cases he
              have i3 : (0 : Int) ≤ (i : Int) := by omega
              have i4 : (i : Int) < (os.length : Int) := by omega
              have HTS := Go.Lib.hid (twin_succ os i kd hio)
              generalize hk' : os[i].kind = kd' at *
              have HKP := Go.Lib.hid hk'
              clear hk'
              by_cases he : kd' = kd
              · subst he
                by_cases hf : five kd' = true
                · have hf' : (2 ≤ kd' ∧ kd' ≤ 5) ∨ (2 ≤ kd' ∧ 5 < kd' ∧ (kd' == 8) = true) := by
                    have := (five_iff _).1 hf
                    rw [beq_iff_eq]; omega
                  have HF := Go.Lib.hid hf
                  clear hf
                  rcases hf' with ⟨f1, f2⟩ | ⟨f1, f2, f3⟩
                  all_goals
                    go_wp2
                    go_ret
                    exact ⟨ret_bool (not_good hlt (fun g => by
                      have e := g.tw
                      rw [HKD.out] at e
                      have e1 := HTS.out
                      rw [HF.out] at e1
                      have e2 := twin_mono os (i + 1) k kd' (by omega) (by rw [e1]; simp)
                      rw [e] at e2
                      cases e2)), m, rfl⟩
                · have hf' : (kd' < 2 ∧ (kd' == 8) = false) ∨ (2 ≤ kd' ∧ 5 < kd' ∧ (kd' == 8) = false) := by
                    have : ¬ ((2 ≤ kd' ∧ kd' ≤ 5) ∨ kd' = 8) := fun h => hf ((five_iff _).2 h)
                    rw [beq_eq_false_iff_ne]; omega
                  have HF : Hid (five kd' = false) := Go.Lib.hid (by simpa using hf)
                  clear hf
                  rcases hf' with ⟨f1, f3⟩ | ⟨f1, f2, f3⟩
                  all_goals
                    go_wp2
                    go_round
                    case rel => exact ⟨i + 1, by omega, by go_num, Go.Lib.hid (by rw [HTS.out, hT.out, HF.out]; simp)⟩
                    case measure => simp [intOf]; omega
              · have hn : (kd' == kd) = false := by simpa using he
                clear he
                go_wp2
                go_round
                case rel => exact ⟨i + 1, by omega, by go_num, Go.Lib.hid (by rw [HTS.out, hT.out, hn]; simp)⟩
                case measure => simp [intOf]; omega
            · obtain rfl : i = k := by omega
              go_wp2
              all_goals first
                | (go_roundw
                   case rel =>
                    have ht := olen_take_succ os i hlt
                    rw [HDD.out] at ht
                    refine ⟨i + 1, m, by omega, by go_num, by rw [ht]; go_num, Go.Lib.hid (fun j hj => ?_), by omega, rfl⟩
                    by_cases hji : j < i
                    · exact hG.out j hji
                    · obtain rfl : j = i := by omega
                      refine (goodAt_iff os j hlt).2 ⟨?_, ?_, ?_, ?_, ?_⟩
                      · rw [HKD.out]; omega
                      · rw [HKD.out]; omega
                      · rw [HKD.out, HDD.out]; exact hok.out
                      · rw [HKD.out]; exact hT.out
                      · omega
                   case measure => simp [intOf]; omega)
                | (go_ret
                   exact ⟨ret_bool (not_good hlt (fun g => by
                    have g1 := g.k0
                    have g2 := g.k1
                    have g3 := g.n40
                    rw [olen_take_succ os i hlt, HDD.out] at g3
                    rw [HKD.out] at g1 g2
                    omega)), m, rfl⟩)
      · go_wp2
        go_ret
        exact ⟨ret_bool (not_good hlt (fun g => by
          have := g.n40
          rw [olen_take_succ os k hlt, HDD.out] at this
          omega)), m, rfl⟩
    · obtain rfl : k = os.length := by omega
      go_wp2
      go_ret
      exact ⟨ret_bool ((rightB_iff os).2 hG.out).symm, m, rfl⟩
end Go.Proofs.Ytghgemmbbedopaa
