/- The landed route: a route that may be; a net among routes. -/
import Derived.Test.YtalmknbcfgndkaaRouteA1
import Derived.Deep.RegionHeld3
namespace Go.Proofs.Ytalmknbcfgndkaa
open Go.ChangeShapes Go.WideShapes Go.ChangeAt Go.RowKit
set_option linter.unusedVariables false
set_option linter.unusedSimpArgs false

theorem okR_not {r : Rt} {q : Bool} (hq : okR r = q) (h : ¬ ((0 ≤ r.bits ∧ r.bits ≤ 32) ∧ (0 ≤ r.zone ∧ r.zone ≤ 7) ∧ (68 ≤ r.mtu ∧ r.mtu ≤ 65535) ∧ r.net % powR r.bits = 0)) : q = false := by
  cases q
  · rfl
  · exact absurd ((okR_iff r).1 hq) h
set_option maxRecDepth 100000 in
set_option maxHeartbeats 4000000 in
theorem cmayBe13 (r : Rt) (hr : RngRt r) (w : World) (q : Bool) (hq : okR r = q) :
    Calls Try.prog 16 #[rtV r] w fun e w' => e = .returned (.bool q) ∧ Below w.heap.size w w' := by
  have HO := Go.Lib.hid hq
  obtain ⟨net, bits, zone, mtu⟩ := r
  have hrn := hr.net
  dsimp only at hrn
  clear hq hr
  have y0 : Below w.heap.size w (w.alloc (oRt ⟨net, bits, zone, mtu⟩)) := (Below.refl _ _).alloc (Nat.le_refl _) _
  have hb := Bxo.made w 26 (rtL ⟨net, bits, zone, mtu⟩)
  go_enter Try.func16, Try.ntmps16
  go_upto_region 1 with fail
  generalize w.alloc (oRt ⟨net, bits, zone, mtu⟩) = W at *
  have c0 := hb.cell 0 rfl
  have c1 := hb.cell 1 rfl
  have c2 := hb.cell 2 rfl
  have c3 := hb.cell 3 rfl
  dsimp only at c0 c1 c2 c3
  clear hb
  by_cases a1 : bits < 0
  · have HQ : Hid (q = false) := Go.Lib.hid (okR_not HO.out (by dsimp only; omega))
    go_quiet (fail)
    go_wp2
    go_ret
    exact ⟨by rw [HQ.out]; rfl, below_dn y0 _⟩
  by_cases a2 : 32 < bits
  · have HQ : Hid (q = false) := Go.Lib.hid (okR_not HO.out (by dsimp only; omega))
    go_quiet (fail)
    go_wp2
    go_ret
    exact ⟨by rw [HQ.out]; rfl, below_dn y0 _⟩
  have hbb : 0 ≤ bits ∧ bits ≤ 32 := by omega
  obtain ⟨p, hp⟩ : ∃ p, powR bits = p := ⟨_, rfl⟩
  have HP := Go.Lib.hid hp
  have HC := Go.Lib.hid (show 4294967296 - powR bits = 4294967296 - p by rw [hp])
  have HB := Go.Lib.hid hbb
  have e1 : Go.bits .andNot .u32 net (4294967296 - p) = net % p := by rw [← hp]; exact andNot_mask net bits hrn hbb
  clear hp hbb
  by_cases a3 : net % p = 0
  · have t3 : (net % p != 0) = false := by simp [a3]
    have HZ := Go.Lib.hid a3
    clear a3
    go_quiet (first | (go_at_call 18; exact Calls.quiet_of_same (ccounts bits HB.out _ _ HC.out)))
    have HQ : Hid (q = (decide (0 ≤ zone) && (decide (zone < 8) && (decide (68 ≤ mtu) && decide (mtu ≤ 65535))))) := Go.Lib.hid (by
      rw [← HO.out, Bool.eq_iff_iff, okR_iff]
      simp only [Bool.and_eq_true, decide_eq_true_eq]
      rw [HP.out]
      have := HB.out
      have := HZ.out
      omega)
    clear e1 t3 a1 a2 HC HB HZ
    by_cases b1 : 0 ≤ zone
    · by_cases b2 : zone < 8
      · by_cases b3 : 68 ≤ mtu
        · by_cases b4 : mtu ≤ 65535
          · go_wp2
            go_ret
            exact ⟨by rw [HQ.out]; simp [b1, b2, b3, b4], below_dn y0 _⟩
          · go_wp2
            go_ret
            exact ⟨by rw [HQ.out]; simp [b1, b2, b3, b4], below_dn y0 _⟩
        · go_wp2
          go_ret
          exact ⟨by rw [HQ.out]; simp [b1, b2, b3]; intros; omega, below_dn y0 _⟩
      · go_wp2
        go_ret
        exact ⟨by rw [HQ.out]; simp [b1, b2]; intros; omega, below_dn y0 _⟩
    · go_wp2
      go_ret
      exact ⟨by rw [HQ.out]; simp [b1]; intros; omega, below_dn y0 _⟩
  · have t3 : (net % p != 0) = true := by simpa using a3
    have HQ : Hid (q = false) := Go.Lib.hid (okR_not HO.out (by dsimp only; rw [HP.out]; omega))
    clear a3
    go_quiet (first | (go_at_call 18; exact Calls.quiet_of_same (ccounts bits HB.out _ _ HC.out)))
    go_wp2
    go_ret
    exact ⟨by rw [HQ.out]; rfl, below_dn y0 _⟩
/-- a net among routes. -/
theorem any_no {l : List Rt} {r : Rt} (h : ∀ j, j < l.length → sameN (atR l j) r = false) : l.any (sameN · r) = false := by
  rw [List.any_eq_false]
  intro x hx
  obtain ⟨j, hj, rfl⟩ := List.getElem_of_mem hx
  have := h j hj
  rw [atR_get hj] at this
  rw [this]
  simp
set_option maxRecDepth 100000 in
set_option maxHeartbeats 4000000 in
theorem chasNet (l : List Rt) (A : Option Addr) (c N : Nat) (hN : l.length = N) (r : Rt) (w : World) (h : RtsAt w l A c) (q : Bool) (hq : l.any (sameN · r) = q) :
    Calls Try.prog 17 #[.slice A N c, rtV r] w fun e w' => e = .returned (.bool q) ∧ Below w.heap.size w w' := by
  subst hN
  have HQ0 := Go.Lib.hid hq
  have HC := Go.Lib.hid h
  have hlc := h.len
  have hcc := h.cap
  have y0 : Below w.heap.size w (w.alloc (oRt r)) := (Below.refl _ _).alloc (Nat.le_refl _) _
  have hb := Bxo.made w 26 (rtL r)
  clear hq h
  go_enter Try.func17, Try.ntmps17
  go_upto_region 1 with fail
  generalize w.alloc (oRt r) = W at *
  have HB := Go.Lib.hid (show Bxo W w.heap.size 26 (rtL r) from hb)
  clear hb
  go_wp2_with fail
  go_loopw [9] (fun iv wr => ∃ k : Nat, iv = .int .i64 k ∧ k ≤ l.length ∧ Hid (∀ j, j < k → sameN (atR l j) r = false) ∧ Below W.heap.size W wr) (fun iv _ => l.length - (intOf iv).toNat)
  case atStart => exact ⟨0, rfl, by omega, Go.Lib.hid (fun j hj => by omega), Below.refl _ _⟩
  case round =>
    rename World => wo
    obtain ⟨k, rfl, hk, HK, yo⟩ := hrel
    have k0 : (0 : Int) ≤ (k : Int) := by omega
    have xo := y0.trans (yo.mono y0.size)
    by_cases hkl : k < l.length
    · have t1 : (k : Int) < (l.length : Int) := by omega
      obtain ⟨ad, rfl, hcell⟩ := HC.out.cell hkl
      obtain ⟨s, hs⟩ : ∃ s, l[k] = s := ⟨_, rfl⟩
      have HS : Hid (atR l k = s) := Go.Lib.hid (by rw [atR_get hkl]; exact hs)
      rw [hs] at hcell
      have HW := Go.Lib.hid (hcell wo xo)
      have y2 : Below W.heap.size W (wo.alloc (oRt s)) := below_alloc yo yo.size _
      have x2 : Below w.heap.size w (wo.alloc (oRt s)) := below_alloc xo xo.size _
      have hbx := Bxo.made wo 26 (rtL s)
      have HBo := Go.Lib.hid (HB.out.keep y2 HB.out.lt)
      clear hcell hs
      go_upto_region 4 with (refine wpList_load_at rfl 26 _ rfl (ad.add (k * 4)) rfl (rtL s) _ HW.out Try.underlying26 rfl info_rt ?_)
      generalize wo.alloc (oRt s) = W2 at *
      generalize wo.heap.size = g2 at *
      have HS2 := Go.Lib.hid (show Bxo W2 g2 26 (rtL s) from hbx)
      obtain ⟨net, bits, zone, mtu⟩ := r
      obtain ⟨snet, sbits, sz, sm⟩ := s
      have c0 := HBo.out.cell 0 rfl
      have c1 := HBo.out.cell 1 rfl
      have d0 := HS2.out.cell 0 rfl
      have d1 := HS2.out.cell 1 rfl
      dsimp only at c0 c1 d0 d1
      clear hbx HW
      by_cases b1 : snet = net
      · have t4 : (snet == net) = true := by simpa using b1
        by_cases b2 : sbits = bits
        · have t5 : (sbits == bits) = true := by simpa using b2
          have HQ : Hid (q = true) := Go.Lib.hid (by
            rw [← HQ0.out, List.any_eq_true]
            exact ⟨l[k], List.getElem_mem hkl, by rw [← atR_get hkl, HS.out]; exact (sameN_iff _ _).2 ⟨b1, b2⟩⟩)
          clear b1 b2
          go_wp2
          go_ret
          exact ⟨by rw [HQ.out]; rfl, x2⟩
        · have t5 : (sbits == bits) = false := by simpa using b2
          have HNE := Go.Lib.hid b2
          clear b1 b2
          go_wp2
          go_round
          case rel => exact ⟨k + 1, by go_num, by omega, Go.Lib.hid (fun j hj => by
            by_cases e : j = k
            · rw [e, HS.out]
              cases hx : sameN ⟨snet, sbits, sz, sm⟩ ⟨net, bits, zone, mtu⟩
              · rfl
              · exact absurd ((sameN_iff _ _).1 hx).2 HNE.out
            · exact HK.out j (by omega)), y2⟩
          case measure => simp [intOf]; omega
      · have t4 : (snet == net) = false := by simpa using b1
        have HNE := Go.Lib.hid b1
        clear b1
        go_wp2
        go_round
        case rel => exact ⟨k + 1, by go_num, by omega, Go.Lib.hid (fun j hj => by
          by_cases e : j = k
          · rw [e, HS.out]
            cases hx : sameN ⟨snet, sbits, sz, sm⟩ ⟨net, bits, zone, mtu⟩
            · rfl
            · exact absurd ((sameN_iff _ _).1 hx).1 HNE.out
          · exact HK.out j (by omega)), y2⟩
        case measure => simp [intOf]; omega
    · obtain rfl : k = l.length := by omega
      have t1 : ¬ (l.length : Int) < (l.length : Int) := by omega
      have HQ : Hid (q = false) := Go.Lib.hid (by rw [← HQ0.out]; exact any_no (fun j hj => HK.out j hj))
      go_wp2_with fail
      go_ret
      exact ⟨by rw [HQ.out]; rfl, xo⟩
end Go.Proofs.Ytalmknbcfgndkaa
