/- The contract of package udp's read. -/
import Derived.Test.YthikllbfkagdnaaUdpA6
namespace Go.Proofs.Ythikllbfkagdnaa
open Go.ChangeShapes Go.WideShapes Go.ChangeAt Go.RowKit
set_option linter.unusedVariables false
set_option linter.unusedSimpArgs false

/-- a datagram's parts out of its bytes. -/
def rdU (l : List UInt8) : Ud := ⟨wd l 0, wd l 2, wd l 6 == 0, l.drop 8⟩
structure ReadU (w w' : World) (u : Ud) (Ab : Option Addr) (cb : Nat) : Prop where
  is : UdIn w' w'.heap.size u Ab cb
  below : Below w.heap.size w w'
  fresh : ∀ ad, Ab = some ad → w.heap.size ≤ ad.block

set_option maxRecDepth 100000 in
set_option maxHeartbeats 8000000 in
theorem uread (A : Option Addr) (n c : Nat) (l : List UInt8) (w : World) (hn : l.length = n) (h : Bs w w.heap.size A l) (hn2 : n ≤ 16777216) (h8 : 8 ≤ n) (hnc : n ≤ c) (hc63 : c ≤ 9223372036854775807) :
    Calls Try.prog 27 #[.slice A n c] w fun e w' => ∃ Ab cb, e = .returned (udV (rdU l) Ab cb) ∧ ReadU w w' (rdU l) Ab cb := by
  obtain ⟨ad, rfl, hlt, _⟩ := g8_cells h (by omega)
  have HL := Go.Lib.hid h
  have HN := Go.Lib.hid hn
  have HDB : Hid (Bs w w.heap.size (if c = 8 then (some ad : Option Addr) else some { block := ad.block, off := ad.off + 8 }) (l.drop 8)) := Go.Lib.hid (h.cut 8 c (by omega) (by omega))
  have HDN : Hid ((if c = 8 then (some ad : Option Addr) else some { block := ad.block, off := ad.off + 8 }) = none → c - 8 = 0) := Go.Lib.hid (fun h => by split at h <;> cases h)
  have HDL : Hid ((l.drop 8).length = n - 8) := Go.Lib.hid (by rw [List.length_drop, hn])
  have i1 : (8 : Int) ≤ (n : Int) := by omega
  have i2 : (8 : Int) ≤ (c : Int) := by omega
  have r0 := IntWalk.i64_in (wd l 0) (by have := wd_lo l 0; have := wd_hi l 0; omega)
  have r2 := IntWalk.i64_in (wd l 2) (by have := wd_lo l 2; have := wd_hi l 2; omega)
  clear hn h
  go_enter Try.func27, Try.ntmps27
  go_upto_region 1 with fail
  have x0 : Below (w.heap.size + 1) (Zu w) ((Zu w).drewN 1) := below_dn (Below.refl _ _) 1
  refine wp_region_held_drew (S := (fun Y => Below w.heap.size w Y)) (by kernel_rfl) ?_ (fun hHeld => ?_)
  · exact Zu.below x0
  refine wpAnyH_take (i := 0) (oi := ⟨some 3, _, _, _, _, _⟩) (v := ?_) rfl (by kernel_rfl) (by kernel_rfl) (by kernel_rfl) (fun _ _ _ h => h) (Or.inl ⟨by rfl, ?_⟩) (by assumption) ?_
  rotate_left
  · intro w hSw; (try dsimp only at hSw); go_simp; (try with_reducible rfl)
  try simp only [Act.put, List.setIfInBounds_toArray, List.set_cons_zero, List.set_cons_succ]
  refine wpAnyH_take (i := 3) (oi := ⟨some 6, _, _, _, _, _⟩) (v := ?_) rfl (by kernel_rfl) (by kernel_rfl) (by kernel_rfl) (fun _ _ _ h => h) (Or.inl ⟨by rfl, ?_⟩) (by assumption) ?_
  rotate_left
  · intro w hSw; (try dsimp only at hSw); go_simp; (try with_reducible rfl)
  try simp only [Act.put, List.setIfInBounds_toArray, List.set_cons_zero, List.set_cons_succ]
  refine wpAnyH_take (i := 6) (oi := ⟨some 9, _, _, _, _, _⟩) (v := ?_) rfl (by kernel_rfl) (by kernel_rfl) (by kernel_rfl) (fun _ _ _ h => h) (Or.inl ⟨by rfl, ?_⟩) (by assumption) ?_
  rotate_left
  · intro w hSw; (try dsimp only at hSw); go_simp; (try with_reducible rfl)
  try simp only [Act.put, List.setIfInBounds_toArray, List.set_cons_zero, List.set_cons_succ]
  refine wpAnyH_take (i := 9) (oi := ⟨some 12, _, _, _, _, _⟩) (v := ?_) rfl (by kernel_rfl) (by kernel_rfl) (by kernel_rfl) (fun _ _ _ h => h) (Or.inl ⟨by rfl, ?_⟩) (by assumption) ?_
  rotate_left
  · intro w hSw; (try dsimp only at hSw); go_simp; (try with_reducible rfl)
  try simp only [Act.put, List.setIfInBounds_toArray, List.set_cons_zero, List.set_cons_succ]
  refine wpAnyH_take (i := 10) (oi := ⟨some 13, _, _, _, _, _⟩) (v := ?_) rfl (by kernel_rfl) (by kernel_rfl) (by kernel_rfl) (fun _ _ _ h => h) (Or.inl ⟨by rfl, ?_⟩) (by assumption) ?_
  rotate_left
  · intro w hSw; (try dsimp only at hSw); go_simp; (try with_reducible rfl)
  try simp only [Act.put, List.setIfInBounds_toArray, List.set_cons_zero, List.set_cons_succ]
  refine wpAnyH_ready (rs := [1]) (by kernel_rfl) (by simp) (AllReadyH.cons (o := ⟨some 4, _, _, _, _, _⟩) rfl (fun Kc hKc => ?_) AllReadyH.nil)
  go_simp
  go_at_call 32; refine (uword_x (some ad) n c l w _ HN.out HL.out 0 0 rfl (by omega) hn2 x0).mono ?_; rintro e v1 ⟨rfl, x1⟩
  clear hHeld
  refine hKc.out _ _ ?_ (fun hHeld => ?_)
  · (try dsimp only); exact Zu.below x1
  clear hKc Kc
  try simp only [Act.put, List.setIfInBounds_toArray, List.set_cons_zero, List.set_cons_succ]
  refine wpAnyH_take (i := 2) (oi := ⟨some 5, _, _, _, _, _⟩) (v := ?_) rfl (by kernel_rfl) (by kernel_rfl) (by kernel_rfl) (fun _ _ _ h => h) (Or.inl ⟨by rfl, ?_⟩) (by assumption) ?_
  rotate_left
  · intro w hSw; (try dsimp only at hSw); go_simp; (try with_reducible rfl)
  try simp only [Act.put, List.setIfInBounds_toArray, List.set_cons_zero, List.set_cons_succ]
  refine wpAnyH_ready (rs := [4]) (by kernel_rfl) (by simp) (AllReadyH.cons (o := ⟨some 7, _, _, _, _, _⟩) rfl (fun Kc hKc => ?_) AllReadyH.nil)
  go_simp
  go_at_call 32; refine (uword_x (some ad) n c l w _ HN.out HL.out 2 2 rfl (by omega) hn2 x1).mono ?_; rintro e v2 ⟨rfl, x2⟩
  clear hHeld
  refine hKc.out _ _ ?_ (fun hHeld => ?_)
  · (try dsimp only); exact Zu.below x2
  clear hKc Kc
  try simp only [Act.put, List.setIfInBounds_toArray, List.set_cons_zero, List.set_cons_succ]
  refine wpAnyH_take (i := 5) (oi := ⟨some 8, _, _, _, _, _⟩) (v := ?_) rfl (by kernel_rfl) (by kernel_rfl) (by kernel_rfl) (fun _ _ _ h => h) (Or.inl ⟨by rfl, ?_⟩) (by assumption) ?_
  rotate_left
  · intro w hSw; (try dsimp only at hSw); go_simp; (try with_reducible rfl)
  try simp only [Act.put, List.setIfInBounds_toArray, List.set_cons_zero, List.set_cons_succ]
  refine wpAnyH_ready (rs := [7]) (by kernel_rfl) (by simp) (AllReadyH.cons (o := ⟨some 10, _, _, _, _, _⟩) rfl (fun Kc hKc => ?_) AllReadyH.nil)
  go_simp
  go_at_call 32; refine (uword_x (some ad) n c l w _ HN.out HL.out 6 6 rfl (by omega) hn2 x2).mono ?_; rintro e v3 ⟨rfl, x3⟩
  clear hHeld
  refine hKc.out _ _ ?_ (fun hHeld => ?_)
  · (try dsimp only); exact Zu.below x3
  clear hKc Kc
  try simp only [Act.put, List.setIfInBounds_toArray, List.set_cons_zero, List.set_cons_succ]
  refine wpAnyH_take (i := 8) (oi := ⟨some 11, _, _, _, _, _⟩) (v := ?_) rfl (by kernel_rfl) (by kernel_rfl) (by kernel_rfl) (fun _ _ _ h => h) (Or.inl ⟨by rfl, ?_⟩) (by assumption) ?_
  rotate_left
  · intro w hSw; (try dsimp only at hSw); go_simp; (try with_reducible rfl)
  try simp only [Act.put, List.setIfInBounds_toArray, List.set_cons_zero, List.set_cons_succ]
  refine wpAnyH_ready (rs := [11]) (by kernel_rfl) (by simp) (AllReadyH.cons (o := ⟨some 14, _, _, _, _, _⟩) rfl (fun Kc hKc => ?_) AllReadyH.nil)
  go_simp
  go_at_call 33; refine (cclone _ (n - 8) (c - 8) (l.drop 8) w.heap.size _ HDL.out (HDB.out.below (Zu.below x3)) (Zu.below x3).size (by omega) HDN.out (by omega)).mono ?_; rintro e w3 ⟨Ab, cb, rfl, hg3⟩; have x4 : Below (w.heap.size + 1) (Zu w) w3 := x3.trans (hg3.below.mono (Zu.size x3)); obtain ⟨⟨z0, z1, z2, z3⟩, zf⟩ := zu_of x4
  clear hHeld
  refine hKc.out _ _ ?_ (fun hHeld => ?_)
  · (try dsimp only); exact Zu.below x4
  clear hKc Kc
  try simp only [Act.put, List.setIfInBounds_toArray, List.set_cons_zero, List.set_cons_succ]
  refine wpAnyH_take (i := 12) (oi := ⟨some 15, _, _, _, _, _⟩) (v := ?_) rfl (by kernel_rfl) (by kernel_rfl) (by kernel_rfl) (fun _ _ _ h => h) (Or.inl ⟨by rfl, ?_⟩) (by assumption) ?_
  rotate_left
  · intro w hSw; (try dsimp only at hSw); go_simp; (try with_reducible rfl)
  try simp only [Act.put, List.setIfInBounds_toArray, List.set_cons_zero, List.set_cons_succ]
  refine wpAnyH_ready (rs := [13]) (by kernel_rfl) (by simp) (AllReadyH.cons (o := ⟨none, _, _, _, _, _⟩) rfl (fun Kc hKc => ?_) AllReadyH.nil)
  go_simp
  have yF := below_s4 (Zu.below x4) (Nat.le_refl _) (.int .i64 (wd l 0)) (.int .i64 (wd l 2)) (.bool (wd l 6 == 0)) (.slice Ab (n - 8) cb)
  clear hHeld
  refine hKc.out _ _ ?_ (fun hHeld => ?_)
  · (try dsimp only); exact yF
  clear hKc Kc
  try simp only [Act.put, List.setIfInBounds_toArray, List.set_cons_zero, List.set_cons_succ]
  refine wpAnyH_done (by kernel_rfl) ?_ _
  have HV : (.agg #[.int .i64 (wd l 0), .int .i64 (wd l 2), .bool (wd l 6 == 0), .slice Ab (n - 8) cb] : Value) = udV (rdU l) Ab cb := by
    have e1 := HDL.out
    rw [← e1]
    rfl
  have HV' := Go.Lib.hid HV
  clear HV
  have HG : Hid (ReadU w (set4 w3 w.heap.size (.int .i64 (wd l 0)) (.int .i64 (wd l 2)) (.bool (wd l 6 == 0)) (.slice Ab (n - 8) cb)) (rdU l) Ab cb) := by
    have s3 := Zu.size x3
    refine Go.Lib.hid ⟨⟨hg3.len, hg3.cap, hg3.nil, ?_⟩, yF, fun ad e => Nat.le_of_lt (Nat.lt_of_lt_of_le (Nat.lt_succ_self _) (Nat.le_trans s3 (hg3.fresh ad e)))⟩
    rw [size_s4]
    exact bs_s4 hg3.bs (fun ad e => Nat.lt_of_lt_of_le (Nat.lt_succ_self _) (Nat.le_trans s3 (hg3.fresh ad e))) _ _ _ _
  clear hg3 yF x4 x3 x2 x1 x0 hHeld
  go_wp2
  all_goals
    refine bodyPost_ret (v := udV (rdU l) Ab cb) ?_ rfl ⟨Ab, cb, rfl, HG.out⟩
    rw [← HV'.out]
    simp [results, Try.results27, go_sem, z0, z1, z2, z3]
theorem uread_x (A : Option Addr) (n c : Nat) (l : List UInt8) (w : World) (hn : l.length = n) (h : Bs w w.heap.size A l) (hn2 : n ≤ 16777216) (h8 : 8 ≤ n) (hnc : n ≤ c) (hc63 : c ≤ 9223372036854775807) (x0 x2 : Int) (vn : Bool) (N : Nat) (h0 : wd l 0 = x0) (h2 : wd l 2 = x2) (hv : (wd l 6 == 0) = vn) (hN : n - 8 = N) :
    Calls Try.prog 27 #[.slice A n c] w fun e w' => ∃ Ab cb, e = .returned (.agg #[.int .i64 x0, .int .i64 x2, .bool vn, .slice Ab N cb]) ∧ ReadU w w' ⟨x0, x2, vn, l.drop 8⟩ Ab cb := by
  subst h0 h2 hv hN
  refine (uread A n c l w hn h hn2 h8 hnc hc63).mono ?_
  rintro e w' ⟨Ab, cb, he, hg⟩
  refine ⟨Ab, cb, ?_, hg⟩
  rw [he, udV, show (rdU l).body.length = n - 8 by unfold rdU; rw [List.length_drop, hn]]
  rfl
end Go.Proofs.Ythikllbfkagdnaa
