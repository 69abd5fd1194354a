/- Statements of layer 3, walked: what is put is parsed as it was; what is parsed is put as it was. -/
import Derived.Test.YtdbidhabpomlgaaIpL2
import Derived.Test.YtdbidhabpomlgaaIpL3
namespace Go.Proofs.Ytdbidhabpomlgaa
open Go.ChangeShapes Go.WideShapes Go.ChangeAt Go.RowKit
set_option linter.unusedVariables false

theorem csameX (p : Pk) (Ao : Option Addr) (co : Nat) (Ab : Option Addr) (cb : Nat) (Ao' : Option Addr) (co' : Nat) (Ab' : Option Addr) (cb' : Nat) (w : World) (o : Obj)
    (ho : Bs w w.heap.size Ao p.opts) (hb : Bs w w.heap.size Ab p.body) (ho' : Bs w w.heap.size Ao' p.opts) (hb' : Bs w w.heap.size Ab' p.body) :
    Calls Try.prog 13 #[pkV p Ao co Ab cb, pkV p Ao' co' Ab' cb'] (w.alloc o) fun e w' => e = .returned (.bool true) ∧ Below w.heap.size w w' := by
  have hx : Below w.heap.size w (w.alloc o) := (Below.refl _ _).alloc (Nat.le_refl _) o
  have hs : w.heap.size ≤ (w.alloc o).heap.size := by simp
  refine (csameT p Ao co Ab cb Ao' co' Ab' cb' _ ((ho.below hx).more hs) ((hb.below hx).more hs) ((ho'.below hx).more hs) ((hb'.below hx).more hs)).mono ?_
  rintro e w' ⟨he, hw⟩
  exact ⟨he, hx.trans (hw.mono hs)⟩
theorem cut10 {w : World} {B : Nat} {A : Option Addr} {l : List UInt8} (h : Bs w B A l) : Bs w B A (l.take 10) := h.take 10

set_option maxRecDepth 100000 in
set_option maxHeartbeats 4000000 in
theorem back (p : Pk) (Ao : Option Addr) (co : Nat) (Ab : Option Addr) (cb : Nat) (A : Option Addr) (cp : Nat) (l : List UInt8) (w : World) (h : PkIn w p Ao co Ab cb) (hb : Bs w w.heap.size A l) (hlc : l.length ≤ cp) (hcm : cp ≤ 9223372036854775807) (hnil : A = none → cp = 0) :
    Calls Try.prog 5 #[pkV p Ao co Ab cb, .slice A l.length cp] w fun e w' => e = .returned (.bool true) ∧ Below w.heap.size w w' := by
  obtain ⟨i0, hi, hz0, hz1, hz2⟩ := info_parts info_byte
  obtain ⟨L, n, hbL, hn, h3, hncp, hc⟩ := first3 hb cp hlc
  have HI := Go.Lib.hid h
  have HN := Go.Lib.hid hn
  have HB := Go.Lib.hid hbL
  have HM := Go.Lib.hid (prs_may L)
  have HX := Go.Lib.hid hnil
  clear hn hb hbL h hnil
  generalize l.length = m at *
  rcases hc with rfl | ⟨rfl, hm3⟩
  all_goals
    go_enter Try.func5, Try.ntmps5
    go_wp2_with fail
    refine (awake _).mono ?_
    rintro e w1 ⟨rfl, hb1⟩
    dsimp only
    have x1 := (Bx.start (p := p) (Ao := Ao) (co := co) (Ab := Ab) (cb := cb) (w := w)).call hb1
    clear hb1
    go_wp2_with fail
    refine (cparse A _ cp L w1 HN.out ((HB.out.below x1.below).more x1.below.size) (by omega) (by omega) hcm).mono ?_
    rintro e w2 ⟨Ao', co', Ab', cb', rfl, hg⟩
    dsimp only
    have x2 := x1.call hg.below
    have hgb := hg.below.size
    clear x1
    go_upto_if 26 with fail
    go_cut [] (fun wx => Bx p Ao co Ab cb w wx)
    case first =>
      have HPP := Go.Lib.hid (put_prs L)
      have hM := HM.out
      generalize (prs L).2 = q at *
      generalize (prs L).1 = f at *
      have x3 := x2.step ((Below.refl _ _).alloc x2.size (.cells #[.int .i64 q.tos, .int .i64 q.id, .bool q.df, .bool q.mf, .int .i64 q.off, .int .i64 q.ttl, .int .i64 q.proto, .int .u32 q.src, .int .u32 q.dst, .slice Ao' q.opts.length co', .slice Ab' q.body.length cb'] 25))
      by_cases hf : f = 0
      · have tf : (f == 0) = true := by simpa using hf
        obtain ⟨P1, P2, P3, P4⟩ := HPP.out hf
        obtain ⟨M, ⟨ms0, ms1⟩, md0, md1⟩ := hM
        have hr : Rng q := ⟨ms0, ms1, md0, md1⟩
        obtain ⟨N, hN⟩ : ∃ N : Nat, N = 20 + q.opts.length + q.body.length := ⟨_, rfl⟩
        have HNN := Go.Lib.hid hN
        have hlen : (putB q).length = N := by rw [putB_length, hN]
        rw [hlen] at P1 P3 P4
        have P1' : N ≤ L.length := P1
        rw [HN.out] at P1
        have k1 := (hg.obs.below ((Below.refl _ _).alloc (Nat.le_refl _) (.cells #[.int .i64 q.tos, .int .i64 q.id, .bool q.df, .bool q.mf, .int .i64 q.off, .int .i64 q.ttl, .int .i64 q.proto, .int .u32 q.src, .int .u32 q.dst, .slice Ao' q.opts.length co', .slice Ab' q.body.length cb'] 25))).more (show w2.heap.size ≤ (w2.alloc (.cells #[.int .i64 q.tos, .int .i64 q.id, .bool q.df, .bool q.mf, .int .i64 q.off, .int .i64 q.ttl, .int .i64 q.proto, .int .u32 q.src, .int .u32 q.dst, .slice Ao' q.opts.length co', .slice Ab' q.body.length cb'] 25)).heap.size by simp)
        have k2 := (hg.bbs.below ((Below.refl _ _).alloc (Nat.le_refl _) (.cells #[.int .i64 q.tos, .int .i64 q.id, .bool q.df, .bool q.mf, .int .i64 q.off, .int .i64 q.ttl, .int .i64 q.proto, .int .u32 q.src, .int .u32 q.dst, .slice Ao' q.opts.length co', .slice Ab' q.body.length cb'] 25))).more (show w2.heap.size ≤ (w2.alloc (.cells #[.int .i64 q.tos, .int .i64 q.id, .bool q.df, .bool q.mf, .int .i64 q.off, .int .i64 q.ttl, .int .i64 q.proto, .int .u32 q.src, .int .u32 q.dst, .slice Ao' q.opts.length co', .slice Ab' q.body.length cb'] 25)).heap.size by simp)
        have k3 := hg.bnil
        have HHM := Go.Lib.hid M
        have HHR := Go.Lib.hid hr
        have HP2 : Hid (((putB q).take 10 == L.take 10) = true) := Go.Lib.hid (by rw [P2]; simp)
        have HP3 : Hid (((putB q).drop 12 == (L.take N).drop 12) = true) := Go.Lib.hid (by rw [P3]; simp)
        clear hN hf hg P2 P3 M hr ms0 ms1 md0 md1 HM
        go_wp2_with fail
        refine (cputN q Ao' co' Ab' cb' _ N HNN.out HHM.out HHR.out k1 k2 k3).mono ?_
        rintro e w4 ⟨g, c, rfl, hown, hb4⟩
        dsimp only
        have x4 := x3.call hb4
        have hcap := hown.cap
        unfold maxLen at hcap
        obtain ⟨hc1, hc2⟩ := hcap
        have HBc := Go.Lib.hid hown.bs
        have HBA : Hid (Bs w4 w.heap.size A L) := Go.Lib.hid (HB.out.below x4.below)
        have hwz : w.heap.size ≤ w4.heap.size := x4.below.size
        have HC12 : Hid (Bs w4 w4.heap.size (if c = 12 then (some ⟨g, 0, none⟩ : Option Addr) else some ⟨g, 12, none⟩) ((putB q).drop 12)) := Go.Lib.hid (by
          have := HBc.out.cut 12 c (by rw [hlen]; exact hc1) (by omega)
          simpa using this)
        have HA12 : Hid (Bs w4 w.heap.size (if cp = 12 then A else A.map fun ad => { block := ad.block, off := ad.off + 12 }) ((L.take N).drop 12)) := Go.Lib.hid ((HBA.out.take N).cut 12 cp (by rw [List.length_take]; omega) (by omega))
        have L1 : Hid (((putB q).take 10).length = 10) := Go.Lib.hid (by rw [List.length_take, hlen]; omega)
        have L2 : Hid ((L.take 10).length = 10) := Go.Lib.hid (by rw [List.length_take]; omega)
        have L3 : Hid (((putB q).drop 12).length = N - 12) := Go.Lib.hid (by rw [List.length_drop, hlen])
        have L4 : Hid (((L.take N).drop 12).length = N - 12) := Go.Lib.hid (by rw [List.length_drop, List.length_take]; omega)
        have i1 : (10 : Int) ≤ (c : Int) := by omega
        have i2 : (10 : Int) ≤ (cp : Int) := by omega
        have i3 : (12 : Int) ≤ (N : Int) := by omega
        have i4 : (N : Int) ≤ (cp : Int) := by omega
        have j1 : N - 12 ≤ 16777216 := by omega
        have hN3 : N ≤ 3000 := by omega
        have t6 : decide ((3000 : Int) < (N : Int)) = false := by simp; omega
        have t7 := decide_eq_false (show ¬ _ < N from Nat.not_lt.2 P1)
        clear hb4 hown x3 k1 k2 k3
        go_upto_region 7 with fail
        try simp only [List.append_eq, List.cons_append, List.nil_append]
        go_region_held3 (fun Y => Below w4.heap.size w4 Y)
          (exact (by repeat (with_reducible first | assumption | exact Below.refl _ _ | refine below_drew ?_ | refine below_dn ?_ _)))
          (first
            | (go_at_call_of 12 (Value.slice A 10 cp); refine (rsame_x (some ⟨g, 0, none⟩) 10 c ((putB q).take 10) A 10 cp (L.take 10) w4.heap.size w.heap.size w4 _ true HP2.out L1.out L2.out (HBc.out.take 10) (Nat.le_refl _) (HBA.out.take 10) hwz (by decide) (by decide) (by repeat (with_reducible first | assumption | exact Below.refl _ _ | refine below_drew ?_ | refine below_dn ?_ _))).mono ?_; rintro e w5 ⟨rfl, m1, rfl⟩; dsimp only)
            | (go_at_call 12; refine (rsame_x _ (N - 12) (c - 12) ((putB q).drop 12) _ (N - 12) (cp - 12) ((L.take N).drop 12) w4.heap.size w.heap.size w4 _ true HP3.out L3.out L4.out HC12.out (Nat.le_refl _) HA12.out hwz j1 j1 (by repeat (with_reducible first | assumption | exact Below.refl _ _ | refine below_drew ?_ | refine below_dn ?_ _))).mono ?_; rintro e w5 ⟨rfl, m2, rfl⟩; dsimp only))
        all_goals
          go_wp2
          go_meet
          exact Bx.step x4 (by repeat (with_reducible first | exact Below.refl _ _ | refine below_drew ?_ | refine below_dn ?_ _))
      · have tf : (f == 0) = false := by simpa using hf
        clear hf hg hM HPP
        go_wp2_with fail
        go_meet
        exact x3
    case rest =>
      have x3 : Bx p Ao co Ab cb w wc := hcut
      clear hg hgb x2 hcut HM
      obtain ⟨c0, c1, c2, c3, c4, c5, c6, c7, c8, c9, c10⟩ := x3.cells
      by_cases hS : p.opts.length ≤ 100 ∧ p.body.length ≤ 3000
      · obtain ⟨s1, s2⟩ := hS
        go_wp2_with fail
        refine (rshortF p Ao co Ab cb true (by simp [s1, s2]) _).mono ?_
        rintro e w4 ⟨rfl, hb4⟩
        dsimp only
        have x4 := x3.call hb4
        clear hb4 x3 c0 c1 c2 c3 c4 c5 c6 c7 c8 c9 c10
        obtain ⟨c0, c1, c2, c3, c4, c5, c6, c7, c8, c9, c10⟩ := x4.cells
        by_cases hM : mayB p = true
        · have M := (mayB_iff p).1 hM
          have p40 := M.p40
          have HMM := Go.Lib.hid M
          obtain ⟨N, hN⟩ : ∃ N : Nat, N = 20 + p.opts.length + p.body.length := ⟨_, rfl⟩
          have HNN := Go.Lib.hid hN
          have hN3 : N ≤ 3060 := by omega
          have hN0 : 0 < N := by omega
          clear hM hN M
          go_wp2_with fail
          refine (cputN p Ao co Ab cb _ N HNN.out HMM.out HI.out.rng ((HI.out.obs.below x4.below).more x4.below.size) ((HI.out.bbs.below x4.below).more x4.below.size) HI.out.bnil).mono ?_
          rintro e w5 ⟨g, c, rfl, hown, hb5⟩
          dsimp only
          have x5 := x4.call hb5
          have hP : Hid (((putB p).map bv).length = N) := Go.Lib.hid (by rw [List.length_map, putB_length, HNN.out])
          have hbs := hown.bs.rd
          have hA := (HB.out.below x5.below).rd
          have hLn := HN.out
          have HLn := Go.Lib.hid hLn
          clear hb5 x4 c0 c1 c2 c3 c4 c5 c6 c7 c8 c9 c10 hown hLn
          go_wp2_with (first
            | (at_builtin; refine wpList_copy_rd rfl _ _ 23 rfl 5 i0 (.int .u8 0) 1 Try.underlying23 hi hz0 hz1 hz2 rfl rfl w5.heap.size (some ⟨g, 0, none⟩) N c ((putB p).map bv) rfl hP.out (fun h => by cases h) hbs (Nat.le_refl _) (bv_one _) (by unfold maxLen; omega) (by omega) ?_; intro v6 w6 hown6 hb6)
            | (at_builtin; refine wpList_append_rd rfl _ _ 23 rfl _ 5 i0 (.int .u8 0) 1 Try.underlying23 hi hz0 hz1 hz2 rfl v6 _ _ rfl hown6 w.heap.size A _ cp (L.map bv) rfl (by rw [List.length_map, HLn.out]) HX.out (hA.below (hb6.mono x5.below.size)) (bv_one _) (by unfold maxLen; omega) (by omega) hb6.size ?_; intro v7 w7 hown7 hg7 hat7))
          have x6 := x5.call hb6
          have x7 : Bx p Ao co Ab cb w w7 := Below.grown x6 hg7 x6.size (fun k hk => Nat.le_trans x5.size (hown6.lt k hk).1)
          obtain ⟨A7, c7, rfl, hn7, hc7, hz7, hr7⟩ := rd_of_own hown7
          have hs7 : Bs w7 w7.heap.size A7 (putB p ++ L) := Rd.bs (by rw [List.map_append]; exact hr7)
          unfold maxLen at hc7
          clear hat7 hg7 hown7 hown6 hb6 hA hbs x5 x6 hr7 hz7
          refine (cparse A7 _ c7 (putB p ++ L) w7 (by rw [List.length_append, putB_length, ← HNN.out, HLn.out]) hs7 (by omega) hn7 (by omega)).mono ?_
          rintro e w8 ⟨Ao', co', Ab', cb', rfl, hg8⟩
          rw [prs_put p L HMM.out HI.out.rng] at hg8
          rw [prs_put p L HMM.out HI.out.rng]
          dsimp only at hg8
          dsimp only
          have x8 := x7.call hg8.below
          have x8s := x8.size
          have hlt8 : w.heap.size < w8.heap.size := x8s
          have hne8 : w8.heap.size ≠ w.heap.size := by omega
          have K1 := Go.Lib.hid ((HI.out.obs.below x8.below).more x8.below.size)
          have K2 := Go.Lib.hid ((HI.out.bbs.below x8.below).more x8.below.size)
          have K3 := Go.Lib.hid hg8.obs
          have K4 := Go.Lib.hid hg8.bbs
          clear hg8 x7 hs7
          obtain ⟨c0, c1, c2, c3, c4, c5, c6, c7, c8, c9, c10⟩ := x8.cells
          go_wp2_with fail
          refine (csameX p Ao co Ab cb Ao' co' Ab' cb' w8 _ K1.out K2.out K3.out K4.out).mono ?_
          rintro e w9 ⟨rfl, hb9⟩
          dsimp only
          have y9 := x8.below.trans (hb9.mono x8.below.size)
          clear c0 c1 c2 c3 c4 c5 c6 c7 c8 c9 c10 hb9 x8
          go_wp2
          go_ret
          exact ⟨rfl, y9⟩
        · have hM' : mayB p = false := by simpa using hM
          clear hM
          go_wp2_with fail
          refine (cputNo p Ao co Ab cb _ hM' (by omega) (by omega)).mono ?_
          rintro e w5 ⟨rfl, hb5⟩
          dsimp only
          have x5 := x4.call hb5
          clear hb5 x4 c0 c1 c2 c3 c4 c5 c6 c7 c8 c9 c10
          go_wp2
          go_ret
          exact ⟨rfl, x5.below⟩
      · have hS' : (decide (p.opts.length ≤ 100) && decide (p.body.length ≤ 3000)) = false := by
          rw [Bool.and_eq_false_iff, decide_eq_false_iff_not, decide_eq_false_iff_not]; omega
        clear hS
        go_wp2_with fail
        refine (rshortF p Ao co Ab cb false hS' _).mono ?_
        rintro e w4 ⟨rfl, hb4⟩
        dsimp only
        have x4 := x3.call hb4
        clear hb4 x3 c0 c1 c2 c3 c4 c5 c6 c7 c8 c9 c10
        go_wp2
        go_ret
        exact ⟨rfl, x4.below⟩
end Go.Proofs.Ytdbidhabpomlgaa
