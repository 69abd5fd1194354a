/- The contract of the document's own Same of bytes. -/
import Derived.Test.YtndhiopfkgdhcaaOwn
import Derived.Lib.SliceRun
namespace Go.Proofs.Ytndhiopfkgdhcaa
open Go.ChangeShapes Go.WideShapes Go.ChangeAt Go.RowKit
set_option linter.unusedVariables false

theorem dd (w : World) (m n : Nat) : (w.drewN m).drewN n = w.drewN (m + n) := by simp [World.drewN, Nat.add_assoc]
theorem take_eq_succ (a b : List UInt8) (k : Nat) (ha : k < a.length) (hb : k < b.length) (h : a.take k = b.take k) (he : a[k] = b[k]) : a.take (k + 1) = b.take (k + 1) := by
  rw [List.take_succ_eq_append_getElem ha, List.take_succ_eq_append_getElem hb, h, he]
theorem g8_eq (a b : List UInt8) (k : Nat) (ha : k < a.length) (hb : k < b.length) : (g8 a k != g8 b k) = !(a[k] == b[k]) := by
  rw [g8_at a k ha, g8_at b k hb]
  by_cases h : a[k] = b[k]
  · simp [h]
  · have : ¬ ((a[k].toNat : Int) = (b[k].toNat : Int)) := fun e => h (UInt8.toNat_inj.1 (by omega))
    rw [Bool.eq_iff_iff]; simp [h, this]

set_option maxRecDepth 100000 in
set_option maxHeartbeats 1000000 in
theorem rsame (A : Option Addr) (n c : Nat) (a : List UInt8) (A' : Option Addr) (n' c' : Nat) (b : List UInt8) (B B' : Nat) (w : World) (hn : a.length = n) (hn' : b.length = n') (h : Bs w B A a) (h' : Bs w B' A' b) (hl : n ≤ 16777216) (hl' : n' ≤ 16777216) :
    Calls Try.prog 11 #[.slice A n c, .slice A' n' c'] w fun e w' => e = .returned (.bool (a == b)) ∧ ∃ m, w' = w.drewN m := by
  by_cases hne : n = n'
  · subst hne
    have HA := Go.Lib.hid hn
    have HB := Go.Lib.hid hn'
    have t1 : ((n : Int) != (n : Int)) = false := by simp
    have HX := Go.Lib.hid h
    have HX' := Go.Lib.hid h'
    clear hn hn' h h'
    go_enter Try.func11, Try.ntmps11
    go_wp2
    go_loopw [5] (fun i wr => ∃ k : Nat, k ≤ n ∧ i = .int .i64 k ∧ Hid (a.take k = b.take k) ∧ ∃ m, wr = w.drewN m) (fun i _ => n - (intOf i).toNat)
    case atStart => exact ⟨0, Nat.zero_le _, rfl, Go.Lib.hid rfl, 0, rfl⟩
    case round =>
      obtain ⟨k, hk, rfl, hT, m, rfl⟩ := hrel
      by_cases hlt : k < n
      · obtain ⟨ad, rfl, _, hc⟩ := g8_cell HX.out (k := k) (by rw [HA.out]; exact hlt)
        obtain ⟨ad', rfl, _, hc'⟩ := g8_cell HX'.out (k := k) (by rw [HB.out]; exact hlt)
        have HE := Go.Lib.hid (g8_eq a b k (by rw [HA.out]; exact hlt) (by rw [HB.out]; exact hlt))
        have i0 : (k : Int) < (n : Int) := by omega
        by_cases he : a[k]'(by rw [HA.out]; exact hlt) = b[k]'(by rw [HB.out]; exact hlt)
        · have HS := Go.Lib.hid (take_eq_succ a b k _ _ hT.out he)
          have t2 : (g8 a k != g8 b k) = false := by rw [HE.out]; simp [he]
          clear he HE
          generalize g8 a k = x at *
          generalize g8 b k = y at *
          go_wp2
          go_quiet (fail)
          go_wp2
          go_roundw
          case rel => exact ⟨k + 1, by omega, by go_num, HS, _, rfl⟩
          case measure => simp [intOf]; omega
        · have t2 : (g8 a k != g8 b k) = true := by rw [HE.out]; simp [he]
          have HF : Hid ((a == b) = false) := Go.Lib.hid (by rw [beq_eq_false_iff_ne]; intro e; subst e; exact he rfl)
          clear he HE
          generalize g8 a k = x at *
          generalize g8 b k = y at *
          go_wp2
          go_quiet (fail)
          go_wp2
          go_ret
          exact ⟨ret_bool HF.out.symm, _, dd _ _ _⟩
      · have HF : Hid ((a == b) = true) := Go.Lib.hid (by
          have e := hT.out
          rw [List.take_of_length_le (by rw [HA.out]; omega), List.take_of_length_le (by rw [HB.out]; omega)] at e
          simpa using e)
        go_wp2
        go_ret
        exact ⟨ret_bool HF.out.symm, _, rfl⟩
  · have t1 : ((n : Int) != (n' : Int)) = true := by rw [bne_iff_ne]; omega
    have HF : Hid ((a == b) = false) := Go.Lib.hid (by rw [beq_eq_false_iff_ne]; intro e; subst e; exact hne (by omega))
    clear hn hn' h h'
    go_enter Try.func11, Try.ntmps11
    go_wp2
    go_ret
    exact ⟨ret_bool HF.out.symm, 0, rfl⟩

theorem rsame_d (A : Option Addr) (n c : Nat) (a : List UInt8) (A' : Option Addr) (n' c' : Nat) (b : List UInt8) (B B' : Nat) (w : World) (hn : a.length = n) (hn' : b.length = n') (h : Bs w B A a) (h' : Bs w B' A' b) (hl : n ≤ 16777216) (hl' : n' ≤ 16777216) (r : Bool) (hr : (a == b) = r) :
    Calls Try.prog 11 #[.slice A n c, .slice A' n' c'] w fun e w' => e = .returned (.bool r) ∧ ∃ m, w' = w.drewN m := hr ▸ rsame A n c a A' n' c' b B B' w hn hn' h h' hl hl'

theorem rsame_x (A : Option Addr) (n c : Nat) (a : List UInt8) (A' : Option Addr) (n' c' : Nat) (b : List UInt8) (B B' : Nat) (W X : World) (r : Bool) (hr : (a == b) = r) (hn : a.length = n) (hn' : b.length = n') (h : Bs W B A a) (hB : B ≤ W.heap.size) (h' : Bs W B' A' b) (hB' : B' ≤ W.heap.size) (hl : n ≤ 16777216) (hl' : n' ≤ 16777216) (x : Below W.heap.size W X) :
    Calls Try.prog 11 #[.slice A n c, .slice A' n' c'] X fun e w' => e = .returned (.bool r) ∧ ∃ m, w' = X.drewN m :=
  rsame_d A n c a A' n' c' b B B' X hn hn' (h.below (x.mono hB)) (h'.below (x.mono hB')) hl hl' r hr

end Go.Proofs.Ytndhiopfkgdhcaa
