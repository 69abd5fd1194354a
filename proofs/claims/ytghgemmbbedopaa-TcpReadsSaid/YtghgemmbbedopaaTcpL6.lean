/- Statements of layer 4, walked: any bytes are the document's segment, or have its first error. -/
import Derived.Test.YtghgemmbbedopaaTcpL5
import Derived.Test.YtghgemmbbedopaaTcpL3
import Derived.Test.YtghgemmbbedopaaTcpR8
namespace Go.Proofs.Ytghgemmbbedopaa
open Go.ChangeShapes Go.WideShapes Go.ChangeAt Go.RowKit
set_option linter.unusedVariables false
set_option linter.unusedSimpArgs false

theorem prsT_none (src dst : Int) (l : List UInt8) (h : (prsT src dst l).1 ≠ 0) : (prsT src dst l).2 = Tc.empty := by
  unfold prsT at h ⊢
  split
  · rfl
  · rename_i h1
    rw [if_neg h1] at h
    split
    · rfl
    · rename_i h2
      rw [if_neg h2] at h
      split
      · rfl
      · rename_i h3
        rw [if_neg h3] at h
        split
        · rfl
        · rename_i h4
          rw [if_neg h4] at h
          cases hp : pOpts 60 ((l.take (tsz l).toNat).drop 20) [] with
          | none => rfl
          | some os => rw [hp] at h; exact absurd rfl h
theorem prsT_small (src dst : Int) (l : List UInt8) (hl : l.length ≤ 3000) : (prsT src dst l).2.body.length ≤ 16777216 ∧ ∀ o ∈ (prsT src dst l).2.opts, o.data.length ≤ 16777216 := by
  by_cases h : (prsT src dst l).1 = 0
  · obtain ⟨M, _, _, hle⟩ := prsT_ok src dst l h
    have hm := (mayT_osm _ M.opts).data
    exact ⟨by omega, fun o ho => by have := hm o ho; omega⟩
  · rw [prsT_none src dst l h]
    exact ⟨by decide, fun o ho => by cases ho⟩
theorem rparseT (src dst : Int) (A : Option Addr) (n c : Nat) (l : List UInt8) (w : World) (hs : 0 ≤ src ∧ src ≤ 4294967295) (hd : 0 ≤ dst ∧ dst ≤ 4294967295) (hn : l.length = n) (h : Bs w w.heap.size A l) (hn2 : n ≤ 16777216) (hnc : n ≤ c) (hc63 : c ≤ 9223372036854775807) :
    Calls Try.prog 18 #[.int .u32 src, .int .u32 dst, .slice A n c] w (ParsT w (prsT src dst l)) := by
  have conv : ∀ e w', ParsedT w (prsT src dst l) e w' → ParsT w (prsT src dst l) e w' := by
    rintro e w' ⟨Ao, co, Ab, cb, he, hg⟩
    exact ⟨Ao, co, Ab, cb, he, hg.is, hg.below⟩
  by_cases hM : tmE l = 0
  · by_cases hS : sumT 6 src dst l = 65535
    · exact rparseTB src dst A n c l w hs hd hn h hn2 hnc hc63 hM hS
    · exact (rparseTA src dst A n c l w hs hd hn h hn2 hnc (.inr (.inr (.inr (.inr hS))))).mono conv
  · refine (rparseTA src dst A n c l w hs hd hn h hn2 hnc ?_).mono conv
    unfold tmE at hM
    rw [hn] at hM
    by_cases h1 : 65535 < n
    · exact .inl h1
    · by_cases h2 : n < 20
      · exact .inr (.inl h2)
      · rw [if_neg h1, if_neg h2] at hM
        by_cases h3 : tsz l < 20 ∨ (n : Int) < tsz l
        · rcases h3 with h3 | h3
          · exact .inr (.inr (.inl h3))
          · exact .inr (.inr (.inr (.inl h3)))
        · rw [if_neg h3] at hM; exact absurd rfl hM

set_option maxRecDepth 100000 in
set_option maxHeartbeats 8000000 in
theorem readsT (src dst : Int) (A : Option Addr) (cp : Nat) (l : List UInt8) (hs : 0 ≤ src ∧ src ≤ 4294967295) (hd : 0 ≤ dst ∧ dst ≤ 4294967295) (w : World) (hb : Bs w w.heap.size A l) (hlc : l.length ≤ cp) (hcm : cp ≤ 9223372036854775807) (hnil : A = none → cp = 0) :
    Calls Try.prog 4 #[.int .u32 src, .int .u32 dst, .slice A l.length cp] w fun e w' => e = .returned (.bool true) ∧ Below w.heap.size w w' := by
  obtain ⟨L, n, hbL, hn, h3, hncp, hc⟩ := first3k hb cp hlc
  have HN := Go.Lib.hid hn
  have HB := Go.Lib.hid hbL
  have HX := Go.Lib.hid hnil
  have HSM := Go.Lib.hid (prsT_small src dst L (by omega))
  clear hn hb hbL hnil
  generalize l.length = m at *
  rcases hc with rfl | ⟨rfl, hm3⟩
  all_goals
    go_enter Try.func4, Try.ntmps4
    go_wp2_with fail
    refine (awakeT _).mono ?_
    rintro e w1 ⟨rfl, x1⟩
    dsimp only
    go_wp2_with fail
    refine (tparse src dst A _ cp L w1 hs hd HN.out ((HB.out.below x1).more x1.size) (by omega) (by omega) hcm HX.out).mono ?_
    rintro e w2 ⟨Ao, co, Ab, cb, rfl, hg⟩
    dsimp only
    have x2 := x1.trans (hg.below.mono x1.size)
    have HG := Go.Lib.hid hg.is
    obtain ⟨qq, hqq⟩ : ∃ qq, prsT src dst L = qq := ⟨_, rfl⟩
    have HQQ := Go.Lib.hid hqq
    rw [hqq] at HG HSM ⊢
    clear hg hqq x1
    obtain ⟨f, q⟩ := qq
    dsimp only at *
    go_upto_region 5 with fail
    have y1 : Below w2.heap.size w2 (w2.alloc (.cells #[.int .i64 q.sport, .int .i64 q.dport, .int .u32 q.seq, .int .u32 q.ack, .int .i64 q.flags, .int .i64 q.win, .int .i64 q.urg, .slice Ao q.opts.length co, .slice Ab q.body.length cb] 26)) := (Below.refl _ _).alloc (Nat.le_refl _) _
    have x3 := x2.trans (y1.mono x2.size)
    have G3 := Go.Lib.hid (HG.out.at y1)
    have m3 := tcIs.made (w := w2) (t := q) (A_opts := Ao) (c_opts := co) (A_body := Ab) (c_body := cb)
    have z3 : w2.heap.size < (w2.alloc (.cells #[.int .i64 q.sport, .int .i64 q.dport, .int .u32 q.seq, .int .u32 q.ack, .int .i64 q.flags, .int .i64 q.win, .int .i64 q.urg, .slice Ao q.opts.length co, .slice Ab q.body.length cb] 26)).heap.size := by simp
    clear y1 x2 HG
    generalize w2.alloc (.cells #[.int .i64 q.sport, .int .i64 q.dport, .int .u32 q.seq, .int .u32 q.ack, .int .i64 q.flags, .int .i64 q.win, .int .i64 q.urg, .slice Ao q.opts.length co, .slice Ab q.body.length cb] 26) = w3 at *
    generalize w2.heap.size = bq at *
    go_wp2_with fail
    refine (rparseT src dst A _ cp L w3 hs hd HN.out ((HB.out.below x3).more x3.size) (by omega) (by omega) hcm).mono ?_
    rw [HQQ.out]
    rintro e w4 ⟨Ao2, co2, Ab2, cb2, rfl, hg4⟩
    dsimp only
    have x4 := x3.trans (hg4.below.mono x3.size)
    have G4 := Go.Lib.hid (G3.out.at hg4.below)
    have H4 := Go.Lib.hid hg4.is
    have m4 := m3.call hg4.below z3
    have z4 := Nat.lt_of_lt_of_le z3 hg4.below.size
    clear hg4 x3 G3 m3 z3
    go_upto_region 6 with fail
    have y5 : Below w4.heap.size w4 (w4.alloc (.cells #[.int .i64 q.sport, .int .i64 q.dport, .int .u32 q.seq, .int .u32 q.ack, .int .i64 q.flags, .int .i64 q.win, .int .i64 q.urg, .slice Ao2 q.opts.length co2, .slice Ab2 q.body.length cb2] 26)) := (Below.refl _ _).alloc (Nat.le_refl _) _
    have x5 := x4.trans (y5.mono x4.size)
    have G5 := Go.Lib.hid (G4.out.at y5)
    have H5 := Go.Lib.hid (H4.out.at y5)
    have m5 := m4.call y5 z4
    have k5 := tcIs.made (w := w4) (t := q) (A_opts := Ao2) (c_opts := co2) (A_body := Ab2) (c_body := cb2)
    clear y5 x4 G4 H4 m4 z4
    generalize w4.alloc (.cells #[.int .i64 q.sport, .int .i64 q.dport, .int .u32 q.seq, .int .u32 q.ack, .int .i64 q.flags, .int .i64 q.win, .int .i64 q.urg, .slice Ao2 q.opts.length co2, .slice Ab2 q.body.length cb2] 26) = w5 at *
    generalize w4.heap.size = br at *
    obtain ⟨c0, c1, c2, c3, c4, c5, c6, c7, c8⟩ := m5.cells
    obtain ⟨d0, d1, d2, d3, d4, d5, d6, d7, d8⟩ := k5.cells
    clear m5 k5
    go_wp2_with (go_at_call 14; refine (rsameT_v q Ao co Ab cb q Ao2 co2 Ab2 cb2 w5.heap.size w5 (Nat.le_refl _) G5.out H5.out HSM.out.1 HSM.out.1 HSM.out.2 HSM.out.2 true ((sameT_iff q q).2 rfl)).mono ?_; rintro e w6 ⟨rfl, b6⟩; dsimp only)
    go_ret
    exact ⟨rfl, x5.trans (b6.mono x5.size)⟩
end Go.Proofs.Ytghgemmbbedopaa
