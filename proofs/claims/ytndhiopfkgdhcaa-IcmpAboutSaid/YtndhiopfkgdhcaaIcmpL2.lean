/- Statements of layer 6, walked: any message is about the packet that the document says, or has its first error; of any packet an error is told as it says. -/
import Derived.Test.YtndhiopfkgdhcaaIcmpL5
import Derived.Test.YtndhiopfkgdhcaaIcmpR5
namespace Go.Proofs.Ytndhiopfkgdhcaa
open Go.ChangeShapes Go.WideShapes Go.ChangeAt Go.RowKit
set_option linter.unusedVariables false
set_option linter.unusedSimpArgs false

theorem about_may (m : Ic) : MayH (aboutI m).2 ∧ Rng (aboutI m).2 := by
  have hE : MayH Pk.empty ∧ Rng Pk.empty := ⟨may_empty.h, ⟨by decide, by decide, by decide, by decide⟩⟩
  by_cases hz : errK m.type = true
  · by_cases hM : imE m.body = 0
    · obtain ⟨m1, m2, m3, m4, m5⟩ := imE_ok hM
      obtain ⟨k, hk⟩ : ∃ k : Nat, (k : Int) = headN m.body := ⟨(headN m.body).toNat, by omega⟩
      obtain ⟨q, hq⟩ : ∃ q : Nat, (q : Int) = wd m.body 2 := ⟨(wd m.body 2).toNat, by omega⟩
      have hh : headN m.body = g8 m.body 0 % 16 * 4 := rfl
      have g0 := g8_lo m.body 0
      have g1 := g8_hi m.body 0
      have q1 := wd_hi m.body 2
      rw [about_ok hz hM hk hq]
      split
      · exact hE
      · split
        · exact hE
        · have b6 := wd_lo (m.body.take k) 6
          have eo : ((m.body.take k).drop 20).length = k - 20 := by rw [List.length_drop, List.length_take]; omega
          have eb : ((m.body.take q).drop k).length ≤ q - k := by rw [List.length_drop, List.length_take]; omega
          refine ⟨⟨g8_lo _ _, g8_hi _ _, g8_lo _ _, g8_hi _ _, g8_lo _ _, g8_hi _ _, wd_lo _ _, wd_hi _ _, ?_, ?_, ?_, ?_, ?_⟩, ⟨ad4_lo _ _, ad4_hi _ _, ad4_lo _ _, ad4_hi _ _⟩⟩
          · show 0 ≤ wd (m.body.take k) 6 % 8192 * 8; omega
          · show wd (m.body.take k) 6 % 8192 * 8 ≤ 65528; omega
          · show ((m.body.take k).drop 20).length ≤ 40; rw [eo]; omega
          · show ((m.body.take k).drop 20).length % 4 = 0; rw [eo]; omega
          · show 20 + ((m.body.take k).drop 20).length + ((m.body.take q).drop k).length ≤ 65535; rw [eo]; omega
    · rw [about_meas hz hM]; exact hE
  · rw [about_kind (by simpa using hz)]; exact hE
theorem tell_small (kind code rest : Int) (l : List UInt8) (h : l.length ≤ 3000) : (tellI kind code rest l).2.body.length ≤ 3000 := by
  unfold tellI
  repeat' split
  all_goals first | (simp [Ic.empty]; done) | (simp only [List.length_take]; omega)

set_option maxRecDepth 100000 in
set_option maxHeartbeats 8000000 in
theorem aboutsI (m : Ic) (Ab : Option Addr) (cb : Nat) (kind code rest : Int) (A : Option Addr) (cp : Nat) (l : List UInt8) (hr : 0 ≤ rest ∧ rest ≤ 4294967295) (w : World) (h : IcIn w w.heap.size m Ab cb) (hb : Bs w w.heap.size A l) (hlc : l.length ≤ cp) (hcm : cp ≤ 9223372036854775807) (hnil : A = none → cp = 0) :
    Calls Try.prog 5 #[icV m Ab cb, .int .i64 kind, .int .i64 code, .int .u32 rest, .slice A l.length cp] w fun e w' => e = .returned (.bool true) ∧ Below w.heap.size w w' := by
  have HI := Go.Lib.hid h
  have HB := Go.Lib.hid hb
  have bl := h.blen
  have bc := h.bcap
  obtain ⟨n, hn⟩ : ∃ n, l.length = n := ⟨_, rfl⟩
  have HN := Go.Lib.hid hn
  rw [hn] at hlc
  rw [hn]
  clear hb h hnil hn
  go_enter Try.func5, Try.ntmps5
  go_wp2_with fail
  refine (awakeI _).mono ?_
  rintro e w1 ⟨rfl, hb1⟩
  dsimp only
  have x1 := (Bi.start (m := m) (Ab := Ab) (cb := cb) (w := w)).call hb1
  clear hb1
  obtain ⟨c0, c1, c2, c3⟩ := x1.cells
  by_cases hu3 : (3000 : Int) < (m.body.length : Int)
  · go_wp2
    go_ret
    exact ⟨rfl, x1.below⟩
  have hul : m.body.length ≤ 3000 := by omega
  by_cases hu4 : (3000 : Int) < (n : Int)
  · go_wp2
    go_ret
    exact ⟨rfl, x1.below⟩
  have hnl : n ≤ 3000 := by omega
  have HMY := Go.Lib.hid (about_may m)
  obtain ⟨qq, hqq⟩ : ∃ qq, aboutI m = qq := ⟨_, rfl⟩
  have HQQ := Go.Lib.hid hqq
  rw [hqq] at HMY
  clear hqq
  obtain ⟨f, q⟩ := qq
  dsimp only at HMY
  go_wp2_with fail
  refine (iabout m Ab cb w1 (HI.out.at x1.below) (by omega)).mono ?_
  rw [HQQ.out]
  rintro e w2 ⟨Ao, co, Bb, db, rfl, hg2⟩
  dsimp only at hg2
  dsimp only
  have x2 := x1.call hg2.below
  clear x1 c0 c1 c2 c3
  go_upto_region 6 with fail
  have y3 : Below w2.heap.size w2 (w2.alloc (.cells #[.int .i64 q.tos, .int .i64 q.id, .bool q.df, .bool q.mf, .int .i64 q.off, .int .i64 q.ttl, .int .i64 q.proto, .int .u32 q.src, .int .u32 q.dst, .slice Ao q.opts.length co, .slice Bb q.body.length db] 43)) := (Below.refl _ _).alloc (Nat.le_refl _) _
  have C3 := c11_made w2 (.int .i64 q.tos) (.int .i64 q.id) (.bool q.df) (.bool q.mf) (.int .i64 q.off) (.int .i64 q.ttl) (.int .i64 q.proto) (.int .u32 q.src) (.int .u32 q.dst) (.slice Ao q.opts.length co) (.slice Bb q.body.length db)
  have s3 : w2.heap.size < (w2.alloc (.cells #[.int .i64 q.tos, .int .i64 q.id, .bool q.df, .bool q.mf, .int .i64 q.off, .int .i64 q.ttl, .int .i64 q.proto, .int .u32 q.src, .int .u32 q.dst, .slice Ao q.opts.length co, .slice Bb q.body.length db] 43)).heap.size := by simp
  have x3 := x2.call y3
  have o3 := (hg2.obs.below y3).more y3.size
  have b3 := (hg2.bbs.below y3).more y3.size
  have n3 := hg2.onil
  clear y3 x2 hg2
  generalize w2.alloc (.cells #[.int .i64 q.tos, .int .i64 q.id, .bool q.df, .bool q.mf, .int .i64 q.off, .int .i64 q.ttl, .int .i64 q.proto, .int .u32 q.src, .int .u32 q.dst, .slice Ao q.opts.length co, .slice Bb q.body.length db] 43) = w3 at *
  generalize w2.heap.size = gp at *
  obtain ⟨c0, c1, c2, c3⟩ := x3.cells
  go_wp2_with fail
  refine (rabout m Ab cb w3 (HI.out.at x3.below) (by omega)).mono ?_
  rw [HQQ.out]
  rintro e w4 ⟨Aq, cq, Bq, dq, rfl, hg4⟩
  dsimp only at hg4
  dsimp only
  have x4 := x3.call hg4.below
  have C4 := C3.keep hg4.below s3
  have s4 := Nat.lt_of_lt_of_le s3 hg4.below.size
  have o4 := (o3.below hg4.below).more hg4.below.size
  have b4 := (b3.below hg4.below).more hg4.below.size
  clear x3 C3 s3 o3 b3 c0 c1 c2 c3
  go_upto_region 7 with fail
  have y5 : Below w4.heap.size w4 (w4.alloc (.cells #[.int .i64 q.tos, .int .i64 q.id, .bool q.df, .bool q.mf, .int .i64 q.off, .int .i64 q.ttl, .int .i64 q.proto, .int .u32 q.src, .int .u32 q.dst, .slice Aq q.opts.length cq, .slice Bq q.body.length dq] 43)) := (Below.refl _ _).alloc (Nat.le_refl _) _
  have D5 := c11_made w4 (.int .i64 q.tos) (.int .i64 q.id) (.bool q.df) (.bool q.mf) (.int .i64 q.off) (.int .i64 q.ttl) (.int .i64 q.proto) (.int .u32 q.src) (.int .u32 q.dst) (.slice Aq q.opts.length cq) (.slice Bq q.body.length dq)
  have x5 := x4.call y5
  have C5 := C4.keep y5 s4
  have o5 := (o4.below y5).more y5.size
  have b5 := (b4.below y5).more y5.size
  have o5' := (hg4.obs.below y5).more y5.size
  have b5' := (hg4.bbs.below y5).more y5.size
  have n5 := hg4.onil
  clear y5 x4 C4 s4 o4 b4 hg4
  generalize w4.alloc (.cells #[.int .i64 q.tos, .int .i64 q.id, .bool q.df, .bool q.mf, .int .i64 q.off, .int .i64 q.ttl, .int .i64 q.proto, .int .u32 q.src, .int .u32 q.dst, .slice Aq q.opts.length cq, .slice Bq q.body.length dq] 43) = w5 at *
  generalize w4.heap.size = gq at *
  obtain ⟨d0, d1, d2, d3, d4, d5, d6, d7, d8, d9, d10⟩ := C5
  obtain ⟨e0, e1, e2, e3, e4, e5, e6, e7, e8, e9, e10⟩ := D5
  have tf : (f != f) = false := by simp
  go_wp2_with fail
  refine (rsameH q Ao co Bb db Aq cq Bq dq w5 HMY.out.1 HMY.out.2.s0 HMY.out.2.s1 HMY.out.2.d0 HMY.out.2.d1 o5 n3 b5 o5' n5 b5').mono ?_
  rintro e w6 ⟨rfl, hb6⟩
  dsimp only
  have x6 := x5.call hb6
  clear hb6 x5 o5 b5 o5' b5' n3 n5 d0 d1 d2 d3 d4 d5 d6 d7 d8 d9 d10 e0 e1 e2 e3 e4 e5 e6 e7 e8 e9 e10 HMY HQQ
  have HSM := Go.Lib.hid (tell_small kind code rest l (by rw [HN.out]; exact hnl))
  obtain ⟨tt, htt⟩ : ∃ tt, tellI kind code rest l = tt := ⟨_, rfl⟩
  have HTT := Go.Lib.hid htt
  rw [htt] at HSM
  clear htt
  obtain ⟨r, x⟩ := tt
  dsimp only at HSM
  go_wp2_with fail
  refine (itell kind code rest A n cp l w6 hr.1 hr.2 HN.out ((HB.out.below x6.below).more x6.below.size) (by omega) hlc hcm).mono ?_
  rw [HTT.out]
  rintro e w7 ⟨A7, c7, rfl, hg7⟩
  dsimp only at hg7
  dsimp only
  have x7 := x6.call hg7.below
  have G7 := Go.Lib.hid hg7.is
  clear x6 hg7
  go_upto_region 10 with fail
  have y8 : Below w7.heap.size w7 (w7.alloc (.cells #[.int .i64 x.type, .int .i64 x.code, .int .u32 x.rest, .slice A7 x.body.length c7] 25)) := (Below.refl _ _).alloc (Nat.le_refl _) _
  have x8 := x7.call y8
  have G8 := Go.Lib.hid (G7.out.at y8)
  have m8 := icIs.made (w := w7) (m := x) (A_body := A7) (c_body := c7)
  have s8 : w7.heap.size < (w7.alloc (.cells #[.int .i64 x.type, .int .i64 x.code, .int .u32 x.rest, .slice A7 x.body.length c7] 25)).heap.size := by simp
  clear y8 x7 G7
  generalize w7.alloc (.cells #[.int .i64 x.type, .int .i64 x.code, .int .u32 x.rest, .slice A7 x.body.length c7] 25) = w8 at *
  generalize w7.heap.size = gx at *
  go_wp2_with fail
  refine (rtell kind code rest A n cp l w8 hr.1 hr.2 HN.out ((HB.out.below x8.below).more x8.below.size) (by omega) hlc hcm).mono ?_
  rw [HTT.out]
  rintro e w9 ⟨A9, c9, rfl, hg9⟩
  dsimp only at hg9
  dsimp only
  have x9 := x8.call hg9.below
  have G9 := Go.Lib.hid (G8.out.at hg9.below)
  have H9 := Go.Lib.hid hg9.is
  have m9 := m8.call hg9.below s8
  have s9 := Nat.lt_of_lt_of_le s8 hg9.below.size
  clear x8 hg9 G8 m8 s8
  go_upto_region 11 with fail
  have y10 : Below w9.heap.size w9 (w9.alloc (.cells #[.int .i64 x.type, .int .i64 x.code, .int .u32 x.rest, .slice A9 x.body.length c9] 25)) := (Below.refl _ _).alloc (Nat.le_refl _) _
  have x10 := x9.call y10
  have G10 := Go.Lib.hid (G9.out.at y10)
  have H10 := Go.Lib.hid (H9.out.at y10)
  have m10 := m9.call y10 s9
  have k10 := icIs.made (w := w9) (m := x) (A_body := A9) (c_body := c9)
  clear y10 x9 G9 H9 m9 s9
  generalize w9.alloc (.cells #[.int .i64 x.type, .int .i64 x.code, .int .u32 x.rest, .slice A9 x.body.length c9] 25) = w10 at *
  generalize w9.heap.size = gy at *
  obtain ⟨c0, c1, c2, c3⟩ := m10.cells
  obtain ⟨d0, d1, d2, d3⟩ := k10.cells
  clear m10 k10
  have tr : (r == r) = true := by simp
  go_wp2_with fail
  refine (rsameI_v x A7 c7 x A9 c9 w10.heap.size w10 (Nat.le_refl _) G10.out.bs H10.out.bs (by have := HSM.out; omega) (by have := HSM.out; omega) true ((sameI_iff x x).2 rfl)).mono ?_
  rintro e w11 ⟨rfl, hb11⟩
  dsimp only
  go_wp2
  go_ret
  exact ⟨rfl, (x10.call hb11).below⟩
end Go.Proofs.Ytndhiopfkgdhcaa
