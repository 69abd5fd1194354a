/- Statements of layer 4, walked: what is put is parsed as it was. -/
import Derived.Deep.DeepCutAuto
import Derived.Deep.CutBlock
import Derived.Test.YtghgemmbbedopaaTcpL2
namespace Go.Proofs.Ytghgemmbbedopaa
open Go.ChangeShapes Go.WideShapes Go.ChangeAt Go.RowKit
set_option linter.unusedVariables false
set_option linter.unusedSimpArgs false

/-- the first 3000 bytes of a slice, or all. -/
theorem first3k {w : World} {B : Nat} {A : Option Addr} {l : List UInt8} (hb : Bs w B A l) (cp : Nat) (hlc : l.length ≤ cp) :
    ∃ (L : List UInt8) (n : Nat), Bs w B A L ∧ L.length = n ∧ n ≤ 3000 ∧ n ≤ cp ∧ (n = l.length ∨ n = 3000 ∧ 3000 < l.length) := by
  by_cases h : l.length ≤ 3000
  · exact ⟨l, _, hb, rfl, h, hlc, .inl rfl⟩
  · exact ⟨l.take 3000, 3000, hb.take 3000, by rw [List.length_take]; omega, by omega, by omega, .inr ⟨rfl, by omega⟩⟩
/-- two segments that are one. -/
theorem tsame_one (t : Tc) (Ao : Option Addr) (co : Nat) (Ab : Option Addr) (cb : Nat) (Ao' : Option Addr) (co' : Nat) (Ab' : Option Addr) (cb' : Nat) (w : World)
    (hI : TcIn w w.heap.size t Ao co Ab cb) (hJ : TcIn w w.heap.size t Ao' co' Ab' cb') (l1 : t.opts.length ≤ 16777216) :
    Calls Try.prog 13 #[tcV t Ao co Ab cb, tcV t Ao' co' Ab' cb'] w fun e w' => e = .returned (.bool true) ∧ Below w.heap.size w w' :=
  tsameT t Ao co Ab cb t Ao' co' Ab' cb' w.heap.size w (Nat.le_refl _) true ((sameT_iff t t).2 rfl) hI hJ l1 l1
/-- Parse of what was put. -/
theorem tparse_put (src dst : Int) (t : Tc) (A : Option Addr) (n c : Nat) (w : World) (hM : MayT t) (hq : 0 ≤ t.seq ∧ t.seq ≤ 4294967295) (ha : 0 ≤ t.ack ∧ t.ack ≤ 4294967295) (hs : 0 ≤ src ∧ src ≤ 4294967295) (hd : 0 ≤ dst ∧ dst ≤ 4294967295) (hn : n = thl t.opts + t.body.length) (h : Bs w w.heap.size A (putT src dst t)) (hnc : n ≤ c) (hc63 : c ≤ 9223372036854775807) (hA : A = none → c = 0) :
    Calls Try.prog 17 #[.int .u32 src, .int .u32 dst, .slice A n c] w fun e w' => ∃ Ao co Ab cb, e = .returned (.tuple #[tcV t Ao co Ab cb, .int .i64 0]) ∧ GivT w w' t Ao co Ab cb := by
  have hfit := hM.fit
  refine (tparse src dst A n c (putT src dst t) w hs hd (by rw [putT_length, hn]) h (by omega) hnc hc63 hA).mono ?_
  rintro e w' ⟨Ao, co, Ab, cb, he, hg⟩
  rw [prs_putT src dst t hM hq ha] at he hg
  exact ⟨Ao, co, Ab, cb, he, hg⟩

set_option maxRecDepth 100000 in
set_option maxHeartbeats 8000000 in
theorem backT (src dst : Int) (t : Tc) (Ao : Option Addr) (co : Nat) (Ab : Option Addr) (cb : Nat) (A : Option Addr) (cp : Nat) (l : List UInt8) (hs : 0 ≤ src ∧ src ≤ 4294967295) (hd : 0 ≤ dst ∧ dst ≤ 4294967295) (w : World) (h : TcIn w w.heap.size t Ao co Ab cb) (hb : Bs w w.heap.size A l) (hlc : l.length ≤ cp) (hcm : cp ≤ 9223372036854775807) (hnil : A = none → cp = 0) :
    Calls Try.prog 5 #[.int .u32 src, .int .u32 dst, tcV t Ao co Ab cb, .slice A l.length cp] w fun e w' => e = .returned (.bool true) ∧ Below w.heap.size w w' := by
  obtain ⟨L, n, hbL, hn, h3, hncp, hc⟩ := first3k hb cp hlc
  have HI := Go.Lib.hid h
  have ol := h.olen
  have oc := h.ocap
  have bl := h.blen
  have bc := h.bcap
  have HN := Go.Lib.hid hn
  have HB := Go.Lib.hid hbL
  have HX := Go.Lib.hid hnil
  clear hn hb hbL h hnil
  generalize l.length = m at *
  rcases hc with rfl | ⟨rfl, hm3⟩
  all_goals
    go_enter Try.func5, Try.ntmps5
    go_wp2_with fail
    refine (awakeT _).mono ?_
    rintro e w1 ⟨rfl, hb1⟩
    dsimp only
    have x1 := (Bt.start (t := t) (Ao := Ao) (co := co) (Ab := Ab) (cb := cb) (w := w)).call hb1
    clear hb1
    go_wp2_with fail
    refine (tparse src dst A _ cp L w1 hs hd HN.out ((HB.out.below x1.below).more x1.below.size) (by omega) (by omega) hcm HX.out).mono ?_
    rintro e w2 ⟨Ao', co', Ab', cb', rfl, hg⟩
    dsimp only
    have x2 := x1.call hg.below
    have HG := Go.Lib.hid hg.is
    have HOK : Hid ((prsT src dst L).1 = 0 → MayT (prsT src dst L).2 ∧ (0 ≤ (prsT src dst L).2.seq ∧ (prsT src dst L).2.seq ≤ 4294967295) ∧ (0 ≤ (prsT src dst L).2.ack ∧ (prsT src dst L).2.ack ≤ 4294967295) ∧ thl (prsT src dst L).2.opts + (prsT src dst L).2.body.length ≤ L.length) := Go.Lib.hid (prsT_ok src dst L)
    clear x1 hg
    generalize (prsT src dst L).2 = q at *
    generalize (prsT src dst L).1 = f at *
    go_upto_if 34 with fail
    go_cut [] (fun wx => Bt t Ao co Ab cb w wx)
    case first =>
      have y1 : Below w2.heap.size w2 (w2.alloc (.cells #[.int .i64 q.sport, .int .i64 q.dport, .int .u32 q.seq, .int .u32 q.ack, .int .i64 q.flags, .int .i64 q.win, .int .i64 q.urg, .slice Ao' q.opts.length co', .slice Ab' q.body.length cb'] 26)) := (Below.refl _ _).alloc (Nat.le_refl _) _
      have x3 := x2.call y1
      have G3 := Go.Lib.hid (HG.out.at y1)
      have m3 := tcIs.made (w := w2) (t := q) (A_opts := Ao') (c_opts := co') (A_body := Ab') (c_body := cb')
      have z3 : w2.heap.size < (w2.alloc (.cells #[.int .i64 q.sport, .int .i64 q.dport, .int .u32 q.seq, .int .u32 q.ack, .int .i64 q.flags, .int .i64 q.win, .int .i64 q.urg, .slice Ao' q.opts.length co', .slice Ab' q.body.length cb'] 26)).heap.size := by simp
      clear y1 x2 HG
      generalize w2.alloc (.cells #[.int .i64 q.sport, .int .i64 q.dport, .int .u32 q.seq, .int .u32 q.ack, .int .i64 q.flags, .int .i64 q.win, .int .i64 q.urg, .slice Ao' q.opts.length co', .slice Ab' q.body.length cb'] 26) = w3 at *
      generalize w2.heap.size = bq at *
      by_cases hf : f = 0
      · have tf : (f == 0) = true := by simpa using hf
        obtain ⟨M, hq1, hq2, hle⟩ := HOK.out hf
        obtain ⟨N, hN⟩ : ∃ N : Nat, N = thl q.opts + q.body.length := ⟨_, rfl⟩
        have hle2 : N ≤ L.length := by omega
        rw [HN.out] at hle2
        have HNN := Go.Lib.hid hN
        have HMM := Go.Lib.hid M
        have ho65 := (mayT_osm q M.opts).len
        clear hN hf M hle
        obtain ⟨c0, c1, c2, c3, c4, c5, c6, c7, c8⟩ := m3.cells
        go_wp2_with fail
        refine (tputYes src dst q Ao' co' Ab' cb' w3 HMM.out hs hd G3.out N HNN.out).mono ?_
        rintro e w4 ⟨g, c, rfl, hown, hb4⟩
        dsimp only
        have x4 := x3.call hb4
        have hcap := hown.cap
        unfold maxLen at hcap
        obtain ⟨hcc1, hcc2⟩ := hcap
        have HBc := Go.Lib.hid hown.bs
        have G4 := Go.Lib.hid (G3.out.at hb4)
        have m4 := m3.call hb4 z3
        have z4 := Nat.lt_of_lt_of_le z3 hb4.size
        clear hown hb4 x3 G3 m3 z3 c0 c1 c2 c3 c4 c5 c6 c7 c8
        go_wp2_with fail
        refine (tparse_put src dst q (some ⟨g, 0, none⟩) N c w4 HMM.out hq1 hq2 hs hd HNN.out HBc.out hcc1 (by omega) (fun h => by cases h)).mono ?_
        rintro e w5 ⟨Ao2, co2, Ab2, cb2, rfl, hg5⟩
        dsimp only
        have x5 := x4.call hg5.below
        have G5 := Go.Lib.hid (G4.out.at hg5.below)
        have H5 := Go.Lib.hid hg5.is
        have m5 := m4.call hg5.below z4
        have z5 := Nat.lt_of_lt_of_le z4 hg5.below.size
        clear hg5 x4 G4 m4 z4
        go_upto_region 8 with fail
        have y6 : Below w5.heap.size w5 (w5.alloc (.cells #[.int .i64 q.sport, .int .i64 q.dport, .int .u32 q.seq, .int .u32 q.ack, .int .i64 q.flags, .int .i64 q.win, .int .i64 q.urg, .slice Ao2 q.opts.length co2, .slice Ab2 q.body.length cb2] 26)) := (Below.refl _ _).alloc (Nat.le_refl _) _
        have x6 := x5.call y6
        have G6 := Go.Lib.hid (G5.out.at y6)
        have H6 := Go.Lib.hid (H5.out.at y6)
        have m6 := m5.call y6 z5
        have k6 := tcIs.made (w := w5) (t := q) (A_opts := Ao2) (c_opts := co2) (A_body := Ab2) (c_body := cb2)
        clear y6 x5 G5 H5 m5 z5
        generalize w5.alloc (.cells #[.int .i64 q.sport, .int .i64 q.dport, .int .u32 q.seq, .int .u32 q.ack, .int .i64 q.flags, .int .i64 q.win, .int .i64 q.urg, .slice Ao2 q.opts.length co2, .slice Ab2 q.body.length cb2] 26) = w6 at *
        generalize w5.heap.size = br at *
        obtain ⟨c0, c1, c2, c3, c4, c5, c6, c7, c8⟩ := m6.cells
        obtain ⟨d0, d1, d2, d3, d4, d5, d6, d7, d8⟩ := k6.cells
        have t6 : decide ((3000 : Int) < (N : Int)) = false := by simp; omega
        have t7 := decide_eq_false (show ¬ _ < N from Nat.not_lt.2 hle2)
        clear m6 k6
        go_wp2_with (go_at_call 13; refine (tsame_one q Ao' co' Ab' cb' Ao2 co2 Ab2 cb2 w6 G6.out H6.out (by omega)).mono ?_; rintro e w7 ⟨rfl, b7⟩; dsimp only)
        go_meet
        exact x6.call b7
      · have tf : (f == 0) = false := by simpa using hf
        clear hf HOK m3
        go_wp2_with fail
        go_meet
        exact x3
    case rest =>
      have x3 : Bt t Ao co Ab cb w wc := hcut
      clear x2 hcut HOK HG
      obtain ⟨c0, c1, c2, c3, c4, c5, c6, c7, c8⟩ := x3.cells
      obtain ⟨sh, hsh⟩ : ∃ sh, shortT t = sh := ⟨_, rfl⟩
      have HSH := Go.Lib.hid hsh
      clear hsh
      go_wp2_with fail
      refine (rshortT t Ao co Ab cb sh HSH.out w.heap.size _ (HI.out.os.below x3.below) x3.below.size ol oc bl bc).mono ?_
      rintro e w4 ⟨rfl, hb4⟩
      dsimp only
      have x4 := x3.call hb4
      clear hb4 x3 c0 c1 c2 c3 c4 c5 c6 c7 c8
      obtain ⟨c0, c1, c2, c3, c4, c5, c6, c7, c8⟩ := x4.cells
      cases sh with
      | false =>
        go_wp2
        go_ret
        exact ⟨rfl, x4.below⟩
      | true =>
        obtain ⟨hosm, l60, l3⟩ := short_osm HSH.out
        have HO := Go.Lib.hid hosm
        clear hosm
        by_cases hM : mayT t = true
        · have M := (mayT_iff t).1 hM
          have HM := Go.Lib.hid M
          obtain ⟨N, hN⟩ : ∃ N : Nat, N = thl t.opts + t.body.length := ⟨_, rfl⟩
          have hn65 := M.fit
          rw [← hN] at hn65
          have HNN := Go.Lib.hid hN
          clear hM hN M
          go_wp2_with fail
          refine (tputYes src dst t Ao co Ab cb _ HM.out hs hd (HI.out.at x4.below) N HNN.out).mono ?_
          rintro e w5 ⟨g, c, rfl, hown, hb5⟩
          dsimp only
          have x5 := x4.call hb5
          have hcap := hown.cap
          unfold maxLen at hcap
          obtain ⟨hcc1, hcc2⟩ := hcap
          have HBc := Go.Lib.hid hown.bs
          clear hown hb5 x4 c0 c1 c2 c3 c4 c5 c6 c7 c8
          go_wp2_with fail
          refine (tparse_put src dst t (some ⟨g, 0, none⟩) N c w5 HM.out ⟨HI.out.q0, HI.out.q1⟩ ⟨HI.out.a0, HI.out.a1⟩ hs hd HNN.out HBc.out hcc1 (by omega) (fun h => by cases h)).mono ?_
          rintro e w6 ⟨Ao2, co2, Ab2, cb2, rfl, hg6⟩
          dsimp only
          have x6 := x5.call hg6.below
          have H6 := Go.Lib.hid hg6.is
          clear hg6 x5
          go_upto_region 16 with fail
          have y7 : Below w6.heap.size w6 (w6.alloc (.cells #[.int .i64 t.sport, .int .i64 t.dport, .int .u32 t.seq, .int .u32 t.ack, .int .i64 t.flags, .int .i64 t.win, .int .i64 t.urg, .slice Ao2 t.opts.length co2, .slice Ab2 t.body.length cb2] 26)) := (Below.refl _ _).alloc (Nat.le_refl _) _
          have x7 := x6.call y7
          have H7 := Go.Lib.hid (H6.out.at y7)
          have k7 := tcIs.made (w := w6) (t := t) (A_opts := Ao2) (c_opts := co2) (A_body := Ab2) (c_body := cb2)
          clear y7 x6 H6
          generalize w6.alloc (.cells #[.int .i64 t.sport, .int .i64 t.dport, .int .u32 t.seq, .int .u32 t.ack, .int .i64 t.flags, .int .i64 t.win, .int .i64 t.urg, .slice Ao2 t.opts.length co2, .slice Ab2 t.body.length cb2] 26) = w7 at *
          generalize w6.heap.size = br at *
          obtain ⟨c0, c1, c2, c3, c4, c5, c6, c7, c8⟩ := x7.cells
          obtain ⟨d0, d1, d2, d3, d4, d5, d6, d7, d8⟩ := k7.cells
          clear k7
          go_wp2_with (go_at_call 13; refine (tsame_one t Ao co Ab cb Ao2 co2 Ab2 cb2 w7 (HI.out.at x7.below) H7.out (by omega)).mono ?_; rintro e w8 ⟨rfl, b8⟩; dsimp only)
          go_ret
          exact ⟨rfl, (x7.call b8).below⟩
        · have hM' : mayT t = false := by simpa using hM
          clear hM
          go_wp2_with fail
          refine (tputNo src dst t Ao co Ab cb _ hM' (HI.out.at x4.below) HO.out (by omega)).mono ?_
          rintro e w5 ⟨rfl, hb5⟩
          dsimp only
          have x5 := x4.call hb5
          clear hb5 x4 c0 c1 c2 c3 c4 c5 c6 c7 c8
          go_wp2
          go_ret
          exact ⟨rfl, x5.below⟩
end Go.Proofs.Ytghgemmbbedopaa
