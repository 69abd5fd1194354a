/- RouteRight, RouteEnds, from the contracts. -/
import Derived.Test.YtalmknbcfgndkaaRouteC
namespace Go.Proofs.Ytalmknbcfgndkaa
open Go.ChangeShapes Go.WideShapes Go.ChangeAt Go.RowKit
set_option linter.unusedVariables false
set_option linter.unusedSimpArgs false

set_option maxRecDepth 100000 in
set_option maxHeartbeats 8000000 in
theorem routeRight (kA0 : AwakeC13) (kI0 : InC13) (kR0 : RightC13) (kF0 : FindC13) (kZ0 : ZoneC13) (L : List Rt) (A : Option Addr) (c : Nat) (addr net bits : Int) (ha : U32 addr) (hn : U32 net) (w : World) (h : RtsAt w L A c) :
    Calls Try.prog 3 #[.slice A L.length c, .int .u32 addr, .int .u32 net, .int .i64 bits] w fun e w' => e = .returned (.bool true) ∧ Below w.heap.size w w' := by
  have kA := Go.Lib.hid kA0
  have kI := Go.Lib.hid kI0
  have kR := Go.Lib.hid kR0
  have kF := Go.Lib.hid kF0
  have kZ := Go.Lib.hid kZ0
  have hcap := h.cap
  obtain ⟨M, hM, hml, hMA, hm, hmc⟩ := h.first100
  have HA := Go.Lib.hid hMA
  have UA := Go.Lib.hid ha
  have UN := Go.Lib.hid hn
  obtain ⟨⟨r, o⟩, hf⟩ : ∃ q, findR M addr = q := ⟨_, rfl⟩
  obtain ⟨b, hb⟩ : ∃ q, rightR M = q := ⟨_, rfl⟩
  obtain ⟨z, hz⟩ : ∃ q, zoneR M addr = q := ⟨_, rfl⟩
  obtain ⟨i, hi⟩ : ∃ q, inN addr net bits = q := ⟨_, rfl⟩
  have HF := Go.Lib.hid hf
  have HB := Go.Lib.hid hb
  have HZ := Go.Lib.hid hz
  have HI := Go.Lib.hid hi
  obtain ⟨n, hN⟩ : ∃ n, M.length = n := ⟨_, rfl⟩
  have HN := Go.Lib.hid hN
  rw [hN] at hml hm hmc
  have er : ∀ W, (binOp .eql 26 (rtV r) (rtV r)).run Try.prog W = .ok (.bool true) W := fun W => by rw [eqRt, (sameRt_iff r r).2 rfl]
  have eb : (b == b) = true := by simp
  have eo : (o == o) = true := by simp
  have ei : (i == i) = true := by simp
  clear h hM hMA ha hn hf hb hz hi hN kA0 kI0 kR0 kF0 kZ0
  go_enter Try.func3, Try.ntmps3
  go_upto_region 5 with (first
    | (go_at_call 7; refine (kA.out _).mono ?_; rintro e w1 ⟨rfl, y1⟩; have HA1 := Go.Lib.hid (HA.out.at y1); dsimp only)
    | (go_at_call 8; refine (kF.out M A c n HN.out hml addr UA.out w1 HA1.out _ HF.out).mono ?_; rintro e w2 ⟨rfl, y2⟩; dsimp only))
  have x2 := y1.trans (y2.mono y1.size)
  have x3 := below_alloc x2 x2.size (oRt r)
  have HA3 := Go.Lib.hid (HA.out.at x3)
  have HG := Go.Lib.hid (Bxo.made w2 26 (rtL r))
  clear x2 y1 y2 HA1
  generalize w2.alloc (.cells (rtL r).toArray 26) = w3 at *
  generalize w2.heap.size = g at *
  go_upto_region 6 with (go_at_call 9; refine (rfind13 M A c n HN.out addr UA.out w3 HA3.out _ HF.out).mono ?_; rintro e w4 ⟨rfl, y4⟩; dsimp only)
  have x4 := x3.trans (y4.mono x3.size)
  have x5 := below_alloc x4 x4.size (oRt r)
  have HA5 := Go.Lib.hid (HA.out.at x5)
  have HG5 := Go.Lib.hid (HG.out.keep (below_alloc y4 y4.size (oRt r)) HG.out.lt)
  have HH := Go.Lib.hid (Bxo.made w4 26 (rtL r))
  clear x4 y4 HA3 HG
  generalize w4.alloc (.cells (rtL r).toArray 26) = w5 at *
  generalize w4.heap.size = g5 at *
  go_wp2_with (first
    | (go_at_call 10; refine (kR.out M A c n HN.out hml w5 HA5.out _ HB.out).mono ?_; rintro e w6 ⟨rfl, y6⟩; have x6 := x5.trans (y6.mono x5.size); have HA6 := Go.Lib.hid (HA5.out.at y6); have HG6 := Go.Lib.hid (HG5.out.keep y6 HG5.out.lt); have HH6 := Go.Lib.hid (HH.out.keep y6 HH.out.lt); dsimp only)
    | (go_at_call 11; refine (rright13 M A c n HN.out w6 HA6.out _ HB.out).mono ?_; rintro e w7 ⟨rfl, y7⟩; have x7 := x6.trans (y7.mono x6.size); have HA7 := Go.Lib.hid (HA6.out.at y7); have HG7 := Go.Lib.hid (HG6.out.keep y7 HG6.out.lt); have HH7 := Go.Lib.hid (HH6.out.keep y7 HH6.out.lt); dsimp only)
    | (refine wpList_load_box rfl 26 _ rfl g rfl (rtL r) _ HG7.out Try.underlying26 rfl info_rt ?_)
    | (refine wpList_load_box rfl 26 _ rfl g5 rfl (rtL r) _ HH7.out Try.underlying26 rfl info_rt ?_)
    | (go_at_call 12; refine (kZ.out M A c n HN.out hml addr UA.out w7 HA7.out _ HZ.out).mono ?_; rintro e w8 ⟨rfl, y8⟩; have x8 := x7.trans (y8.mono x7.size); have HA8 := Go.Lib.hid (HA7.out.at y8); dsimp only)
    | (go_at_call 13; refine (rzone13 M A c n HN.out addr UA.out w8 HA8.out _ HZ.out).mono ?_; rintro e w9 ⟨rfl, y9⟩; have x9 := x8.trans (y9.mono x8.size); dsimp only)
    | (go_at_call 14; refine (kI.out addr net bits UA.out UN.out w9 _ HI.out).mono ?_; rintro e w10 ⟨rfl, y10⟩; have x10 := x9.trans (y10.mono x9.size); dsimp only)
    | (go_at_call 15; refine (rin13 addr net bits UA.out UN.out w10 _ HI.out).mono ?_; rintro e w11 ⟨rfl, y11⟩; have x11 := x10.trans (y11.mono x10.size); dsimp only))
  go_ret
  exact ⟨rfl, x11⟩
set_option maxRecDepth 100000 in
set_option maxHeartbeats 8000000 in
theorem routeEnds (kA0 : AwakeC13) (kI0 : InC13) (addr net bits fewer : Int) (ha : U32 addr) (hn : U32 net) (hb : 0 ≤ bits ∧ bits ≤ 255) (hf : 0 ≤ fewer ∧ fewer ≤ 255) (w : World) :
    Calls Try.prog 6 #[.int .u32 addr, .int .u32 net, .int .u8 bits, .int .u8 fewer] w fun e w' => e = .returned (.bool true) ∧ Below w.heap.size w w' := by
  have kA := Go.Lib.hid kA0
  have kI := Go.Lib.hid kI0
  have UA := Go.Lib.hid ha
  have UN := Go.Lib.hid hn
  obtain ⟨n, hnn⟩ : ∃ n, bits % 33 = n := ⟨_, rfl⟩
  have n0 : 0 ≤ n ∧ n ≤ 32 := by omega
  obtain ⟨d, hd⟩ : ∃ d, fewer % (n + 1) = d := ⟨_, rfl⟩
  have d0 : 0 ≤ d ∧ d ≤ n := by
    have h1 := Int.emod_nonneg fewer (show n + 1 ≠ 0 by omega)
    have h2 := Int.emod_lt_of_pos fewer (show 0 < n + 1 by omega)
    omega
  obtain ⟨m, hm⟩ : ∃ m, n - d = m := ⟨_, rfl⟩
  have e1 : Int.tmod bits 33 = n := by rw [Int.tmod_eq_emod_of_nonneg hb.1, hnn]
  have e2 : IntKind.i64.wrap n = n := IntWalk.i64_in _ (by omega)
  have e3 : IntKind.i64.wrap fewer = fewer := IntWalk.i64_in _ (by omega)
  have e4 : IntKind.i64.wrap (n + 1) = n + 1 := IntWalk.i64_in _ (by omega)
  have e5 : Int.tmod fewer (n + 1) = d := by rw [Int.tmod_eq_emod_of_nonneg hf.1, hd]
  have e6 : IntKind.i64.wrap (n - d) = m := by rw [hm]; exact IntWalk.i64_in _ (by omega)
  have e7 : ¬ n + 1 = 0 := by omega
  obtain ⟨s, hs⟩ : ∃ s, (addr == net) = s := ⟨_, rfl⟩
  obtain ⟨i, hi⟩ : ∃ i, inN addr net n = i := ⟨_, rfl⟩
  obtain ⟨j, hj⟩ : ∃ j, inN addr net m = j := ⟨_, rfl⟩
  have hij : i = true → j = true := fun e => by rw [← hj]; exact in_fewer (by rw [hi]; exact e) (by omega) (by omega)
  have Q0 : Hid (inN addr net 0 = true) := Go.Lib.hid (in_none ha hn)
  have Q32 : Hid (inN addr net 32 = s) := Go.Lib.hid (by rw [in_all, hs])
  have QN : Hid (inN addr net n = i) := Go.Lib.hid hi
  have QM : Hid (inN addr net m = j) := Go.Lib.hid hj
  have QT : Hid (inN net addr n = i) := Go.Lib.hid (by rw [in_turn, hi])
  have Q33 : Hid (inN addr net 33 = false) := Go.Lib.hid (in_33 _ _)
  have es : (s == s) = true := by simp
  have ei : (i == i) = true := by simp
  clear hnn hd hm hi hj ha hn hb hf kA0 kI0 d0 n0
  go_enter Try.func6, Try.ntmps6
  go_upto_region 5 with (go_at_call 7; refine (kA.out _).mono ?_; rintro e w1 ⟨rfl, y1⟩; dsimp only)
  cases i
  · go_wp2_with (first
      | (go_at_call_of 14 (Value.int IntKind.i64 0); refine (kI.out addr net 0 UA.out UN.out w1 _ Q0.out).mono ?_; rintro e w2 ⟨rfl, y2⟩; have x2 := y1.trans (y2.mono y1.size); dsimp only)
      | (go_at_call_of 14 (Value.int IntKind.i64 32); refine (kI.out addr net 32 UA.out UN.out w2 _ Q32.out).mono ?_; rintro e w3 ⟨rfl, y3⟩; have x3 := x2.trans (y3.mono x2.size); dsimp only)
      | (go_at_call_of 14 (Value.int IntKind.i64 33); refine (kI.out addr net 33 UA.out UN.out w7 _ Q33.out).mono ?_; rintro e w8 ⟨rfl, y8⟩; have x8 := x7.trans (y8.mono x7.size); dsimp only)
      | (go_at_call_of 14 ([Value.int IntKind.u32 addr, Value.int IntKind.i64 n]); refine (kI.out net addr n UN.out UA.out w4 _ QT.out).mono ?_; rintro e w6 ⟨rfl, y6⟩; have x6 := x4.trans (y6.mono x4.size); dsimp only)
      | (go_at_call 14; refine (kI.out addr net n UA.out UN.out w6 _ QN.out).mono ?_; rintro e w7 ⟨rfl, y7⟩; have x7 := x6.trans (y7.mono x6.size); dsimp only)
      | (go_at_call 14; refine (kI.out addr net n UA.out UN.out w3 _ QN.out).mono ?_; rintro e w4 ⟨rfl, y4⟩; have x4 := x3.trans (y4.mono x3.size); dsimp only))
    go_ret
    exact ⟨rfl, x8⟩
  · obtain rfl := hij rfl
    go_wp2_with (first
      | (go_at_call_of 14 (Value.int IntKind.i64 0); refine (kI.out addr net 0 UA.out UN.out w1 _ Q0.out).mono ?_; rintro e w2 ⟨rfl, y2⟩; have x2 := y1.trans (y2.mono y1.size); dsimp only)
      | (go_at_call_of 14 (Value.int IntKind.i64 32); refine (kI.out addr net 32 UA.out UN.out w2 _ Q32.out).mono ?_; rintro e w3 ⟨rfl, y3⟩; have x3 := x2.trans (y3.mono x2.size); dsimp only)
      | (go_at_call_of 14 (Value.int IntKind.i64 33); refine (kI.out addr net 33 UA.out UN.out w7 _ Q33.out).mono ?_; rintro e w8 ⟨rfl, y8⟩; have x8 := x7.trans (y8.mono x7.size); dsimp only)
      | (go_at_call_of 14 (Value.int IntKind.i64 m); refine (kI.out addr net m UA.out UN.out w4 _ QM.out).mono ?_; rintro e w5 ⟨rfl, y5⟩; have x5 := x4.trans (y5.mono x4.size); dsimp only)
      | (go_at_call_of 14 ([Value.int IntKind.u32 addr, Value.int IntKind.i64 n]); refine (kI.out net addr n UN.out UA.out w5 _ QT.out).mono ?_; rintro e w6 ⟨rfl, y6⟩; have x6 := x5.trans (y6.mono x5.size); dsimp only)
      | (go_at_call 14; refine (kI.out addr net n UA.out UN.out w6 _ QN.out).mono ?_; rintro e w7 ⟨rfl, y7⟩; have x7 := x6.trans (y7.mono x6.size); dsimp only)
      | (go_at_call 14; refine (kI.out addr net n UA.out UN.out w3 _ QN.out).mono ?_; rintro e w4 ⟨rfl, y4⟩; have x4 := x3.trans (y4.mono x3.size); dsimp only))
    go_ret
    exact ⟨rfl, x8⟩
end Go.Proofs.Ytalmknbcfgndkaa
