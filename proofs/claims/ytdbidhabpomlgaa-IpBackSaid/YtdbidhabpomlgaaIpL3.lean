/- Statements of layer 3, walked: any bytes are the document's packet, or have its first error. -/
import Derived.Test.YtdbidhabpomlgaaIpL
namespace Go.Proofs.Ytdbidhabpomlgaa
open Go.ChangeShapes Go.WideShapes Go.ChangeAt Go.RowKit
set_option linter.unusedVariables false

/-- at most 3000 of the bytes, and how many. -/
theorem first3 {w : World} {B : Nat} {A : Option Addr} {l : List UInt8} (hb : Bs w B A l) (cp : Nat) (hlc : l.length ≤ cp) :
    ∃ (L : List UInt8) (n : Nat), Bs w B A L ∧ L.length = n ∧ n ≤ 3000 ∧ n ≤ cp ∧ (n = l.length ∨ n = 3000 ∧ 3000 < l.length) := by
  by_cases h : l.length ≤ 3000
  · exact ⟨l, _, hb, rfl, h, hlc, .inl rfl⟩
  · exact ⟨l.take 3000, 3000, hb.take 3000, by rw [List.length_take]; omega, by omega, by omega, .inr ⟨rfl, by omega⟩⟩
theorem cell_alloc {w : World} {b k : Nat} (h : b < w.heap.size) (o : Obj) : (w.alloc o).cell? ⟨b, k, none⟩ = w.cell? ⟨b, k, none⟩ := World.cell?_alloc_lt w o ⟨b, k, none⟩ h
theorem csameT (p : Pk) (Ao : Option Addr) (co : Nat) (Ab : Option Addr) (cb : Nat) (Ao' : Option Addr) (co' : Nat) (Ab' : Option Addr) (cb' : Nat) (w : World)
    (ho : Bs w w.heap.size Ao p.opts) (hb : Bs w w.heap.size Ab p.body) (ho' : Bs w w.heap.size Ao' p.opts) (hb' : Bs w w.heap.size Ab' p.body) :
    Calls Try.prog 13 #[pkV p Ao co Ab cb, pkV p Ao' co' Ab' cb'] w fun e w' => e = .returned (.bool true) ∧ Below w.heap.size w w' := by
  have h : sameB p p = true := (sameB_iff p p).2 rfl
  have := csameP p p Ao co Ab cb Ao' co' Ab' cb' w ho hb ho' hb'
  rwa [h] at this

set_option maxRecDepth 100000 in
set_option maxHeartbeats 4000000 in
theorem reads (A : Option Addr) (cp : Nat) (l : List UInt8) (w : World) (hb : Bs w w.heap.size A l) (hlc : l.length ≤ cp) (hcm : cp ≤ 9223372036854775807) :
    Calls Try.prog 4 #[.slice A l.length cp] w fun e w' => e = .returned (.bool true) ∧ Below w.heap.size w w' := by
  obtain ⟨L, n, hbL, hn, h3, hncp, hc⟩ := first3 hb cp hlc
  have HN := Go.Lib.hid hn
  have HB := Go.Lib.hid hbL
  have HM := Go.Lib.hid (prs_may L)
  clear hn hb hbL
  generalize l.length = m at *
  rcases hc with rfl | ⟨rfl, hm3⟩
  all_goals
    go_enter Try.func4, Try.ntmps4
    go_wp2_with fail
    refine (awake _).mono ?_
    rintro e w1 ⟨rfl, hb1⟩
    dsimp only
    go_wp2_with fail
    refine (cparse A _ cp L w1 HN.out ((HB.out.below hb1).more hb1.size) (by omega) (by omega) hcm).mono ?_
    rintro e w2 ⟨Ao, co, Ab, cb, rfl, hg⟩
    dsimp only
    have hM := HM.out
    have HRd : Hid (prs L = ((prs L).1, (prs L).2)) := Go.Lib.hid rfl
    generalize (prs L).2 = p at *
    generalize (prs L).1 = f at *
    have y2 := hb1.trans (hg.below.mono hb1.size)
    have y3 : Below w.heap.size w (w2.alloc (.cells #[.int .i64 p.tos, .int .i64 p.id, .bool p.df, .bool p.mf, .int .i64 p.off, .int .i64 p.ttl, .int .i64 p.proto, .int .u32 p.src, .int .u32 p.dst, .slice Ao p.opts.length co, .slice Ab p.body.length cb] 25)) := y2.alloc y2.size _
    have t1 : (f == f) = true := by simp
    go_wp2_with fail
    refine (rparse A _ cp L _ HN.out ((HB.out.below y3).more y3.size) (by omega) (by omega)).mono ?_
    rintro e w4 ⟨Ao', co', Ab', cb', rfl, hg'⟩
    rw [HRd.out] at hg'
    rw [HRd.out]
    dsimp only at hg'
    dsimp only
    have z2 : w2.heap.size < (w2.alloc (.cells #[.int .i64 p.tos, .int .i64 p.id, .bool p.df, .bool p.mf, .int .i64 p.off, .int .i64 p.ttl, .int .i64 p.proto, .int .u32 p.src, .int .u32 p.dst, .slice Ao p.opts.length co, .slice Ab p.body.length cb] 25)).heap.size := by simp
    have z4 := hg'.below.size
    have z5 : w2.heap.size < w4.heap.size := Nat.lt_of_lt_of_le z2 z4
    have q0 := cells_keep (k := 0) hg'.below z2 (by simp [go_sem]; rfl)
    have q1 := cells_keep (k := 1) hg'.below z2 (by simp [go_sem]; rfl)
    have q2 := cells_keep (k := 2) hg'.below z2 (by simp [go_sem]; rfl)
    have q3 := cells_keep (k := 3) hg'.below z2 (by simp [go_sem]; rfl)
    have q4 := cells_keep (k := 4) hg'.below z2 (by simp [go_sem]; rfl)
    have q5 := cells_keep (k := 5) hg'.below z2 (by simp [go_sem]; rfl)
    have q6 := cells_keep (k := 6) hg'.below z2 (by simp [go_sem]; rfl)
    have q7 := cells_keep (k := 7) hg'.below z2 (by simp [go_sem]; rfl)
    have q8 := cells_keep (k := 8) hg'.below z2 (by simp [go_sem]; rfl)
    have q9 := cells_keep (k := 9) hg'.below z2 (by simp [go_sem]; rfl)
    have q10 := cells_keep (k := 10) hg'.below z2 (by simp [go_sem]; rfl)
    have y4 := y3.trans (hg'.below.mono y3.size)
    have hw5 : ∀ o, Below w4.heap.size w4 (w4.alloc o) := fun o => (Below.refl _ _).alloc (Nat.le_refl _) o
    have b1 := ((hg.obs.below ((Below.refl _ _).alloc (Nat.le_refl _) (.cells #[.int .i64 p.tos, .int .i64 p.id, .bool p.df, .bool p.mf, .int .i64 p.off, .int .i64 p.ttl, .int .i64 p.proto, .int .u32 p.src, .int .u32 p.dst, .slice Ao p.opts.length co, .slice Ab p.body.length cb] 25))).more (show w2.heap.size ≤ (w2.alloc (.cells #[.int .i64 p.tos, .int .i64 p.id, .bool p.df, .bool p.mf, .int .i64 p.off, .int .i64 p.ttl, .int .i64 p.proto, .int .u32 p.src, .int .u32 p.dst, .slice Ao p.opts.length co, .slice Ab p.body.length cb] 25)).heap.size by simp)).below hg'.below
    have b2 := ((hg.bbs.below ((Below.refl _ _).alloc (Nat.le_refl _) (.cells #[.int .i64 p.tos, .int .i64 p.id, .bool p.df, .bool p.mf, .int .i64 p.off, .int .i64 p.ttl, .int .i64 p.proto, .int .u32 p.src, .int .u32 p.dst, .slice Ao p.opts.length co, .slice Ab p.body.length cb] 25))).more (show w2.heap.size ≤ (w2.alloc (.cells #[.int .i64 p.tos, .int .i64 p.id, .bool p.df, .bool p.mf, .int .i64 p.off, .int .i64 p.ttl, .int .i64 p.proto, .int .u32 p.src, .int .u32 p.dst, .slice Ao p.opts.length co, .slice Ab p.body.length cb] 25)).heap.size by simp)).below hg'.below
    have HB1 := Go.Lib.hid (b1.more z4)
    have HB2 := Go.Lib.hid (b2.more z4)
    have HB3 := Go.Lib.hid hg'.obs
    have HB4 := Go.Lib.hid hg'.bbs
    have N1 := Go.Lib.hid hg.onil
    have N2 := Go.Lib.hid hg'.onil
    have HMM := Go.Lib.hid hM
    clear b1 b2 hg hg' hM HRd hb1 y2 y3
    go_wp2_with fail
    have k1 := (HB1.out.below (hw5 (.cells #[.int .i64 p.tos, .int .i64 p.id, .bool p.df, .bool p.mf, .int .i64 p.off, .int .i64 p.ttl, .int .i64 p.proto, .int .u32 p.src, .int .u32 p.dst, .slice Ao' p.opts.length co', .slice Ab' p.body.length cb'] 25))).more (show w4.heap.size ≤ (w4.alloc (.cells #[.int .i64 p.tos, .int .i64 p.id, .bool p.df, .bool p.mf, .int .i64 p.off, .int .i64 p.ttl, .int .i64 p.proto, .int .u32 p.src, .int .u32 p.dst, .slice Ao' p.opts.length co', .slice Ab' p.body.length cb'] 25)).heap.size by simp)
    have k2 := (HB2.out.below (hw5 (.cells #[.int .i64 p.tos, .int .i64 p.id, .bool p.df, .bool p.mf, .int .i64 p.off, .int .i64 p.ttl, .int .i64 p.proto, .int .u32 p.src, .int .u32 p.dst, .slice Ao' p.opts.length co', .slice Ab' p.body.length cb'] 25))).more (show w4.heap.size ≤ (w4.alloc (.cells #[.int .i64 p.tos, .int .i64 p.id, .bool p.df, .bool p.mf, .int .i64 p.off, .int .i64 p.ttl, .int .i64 p.proto, .int .u32 p.src, .int .u32 p.dst, .slice Ao' p.opts.length co', .slice Ab' p.body.length cb'] 25)).heap.size by simp)
    have k3 := (HB3.out.below (hw5 (.cells #[.int .i64 p.tos, .int .i64 p.id, .bool p.df, .bool p.mf, .int .i64 p.off, .int .i64 p.ttl, .int .i64 p.proto, .int .u32 p.src, .int .u32 p.dst, .slice Ao' p.opts.length co', .slice Ab' p.body.length cb'] 25))).more (show w4.heap.size ≤ (w4.alloc (.cells #[.int .i64 p.tos, .int .i64 p.id, .bool p.df, .bool p.mf, .int .i64 p.off, .int .i64 p.ttl, .int .i64 p.proto, .int .u32 p.src, .int .u32 p.dst, .slice Ao' p.opts.length co', .slice Ab' p.body.length cb'] 25)).heap.size by simp)
    have k4 := (HB4.out.below (hw5 (.cells #[.int .i64 p.tos, .int .i64 p.id, .bool p.df, .bool p.mf, .int .i64 p.off, .int .i64 p.ttl, .int .i64 p.proto, .int .u32 p.src, .int .u32 p.dst, .slice Ao' p.opts.length co', .slice Ab' p.body.length cb'] 25))).more (show w4.heap.size ≤ (w4.alloc (.cells #[.int .i64 p.tos, .int .i64 p.id, .bool p.df, .bool p.mf, .int .i64 p.off, .int .i64 p.ttl, .int .i64 p.proto, .int .u32 p.src, .int .u32 p.dst, .slice Ao' p.opts.length co', .slice Ab' p.body.length cb'] 25)).heap.size by simp)
    refine (csameT p Ao co Ab cb Ao' co' Ab' cb' _ k1 k2 k3 k4).mono ?_
    rintro e w6 ⟨rfl, hb6⟩
    dsimp only
    have z6 : w2.heap.size < (w4.alloc (.cells #[.int .i64 p.tos, .int .i64 p.id, .bool p.df, .bool p.mf, .int .i64 p.off, .int .i64 p.ttl, .int .i64 p.proto, .int .u32 p.src, .int .u32 p.dst, .slice Ao' p.opts.length co', .slice Ab' p.body.length cb'] 25)).heap.size := by simp; omega
    have z7 : w4.heap.size < (w4.alloc (.cells #[.int .i64 p.tos, .int .i64 p.id, .bool p.df, .bool p.mf, .int .i64 p.off, .int .i64 p.ttl, .int .i64 p.proto, .int .u32 p.src, .int .u32 p.dst, .slice Ao' p.opts.length co', .slice Ab' p.body.length cb'] 25)).heap.size := by simp
    have r0 := cells_keep (k := 0) hb6 z6 ((cell_alloc z5 _).trans q0)
    have r1 := cells_keep (k := 1) hb6 z6 ((cell_alloc z5 _).trans q1)
    have r2 := cells_keep (k := 2) hb6 z6 ((cell_alloc z5 _).trans q2)
    have r3 := cells_keep (k := 3) hb6 z6 ((cell_alloc z5 _).trans q3)
    have r4 := cells_keep (k := 4) hb6 z6 ((cell_alloc z5 _).trans q4)
    have r5 := cells_keep (k := 5) hb6 z6 ((cell_alloc z5 _).trans q5)
    have r6 := cells_keep (k := 6) hb6 z6 ((cell_alloc z5 _).trans q6)
    have r7 := cells_keep (k := 7) hb6 z6 ((cell_alloc z5 _).trans q7)
    have r8 := cells_keep (k := 8) hb6 z6 ((cell_alloc z5 _).trans q8)
    have r9 := cells_keep (k := 9) hb6 z6 ((cell_alloc z5 _).trans q9)
    have r10 := cells_keep (k := 10) hb6 z6 ((cell_alloc z5 _).trans q10)
    have s0 := cells_keep (k := 0) hb6 z7 (by simp [go_sem]; rfl)
    have s1 := cells_keep (k := 1) hb6 z7 (by simp [go_sem]; rfl)
    have s2 := cells_keep (k := 2) hb6 z7 (by simp [go_sem]; rfl)
    have s3 := cells_keep (k := 3) hb6 z7 (by simp [go_sem]; rfl)
    have s4 := cells_keep (k := 4) hb6 z7 (by simp [go_sem]; rfl)
    have s5 := cells_keep (k := 5) hb6 z7 (by simp [go_sem]; rfl)
    have s6 := cells_keep (k := 6) hb6 z7 (by simp [go_sem]; rfl)
    have s7 := cells_keep (k := 7) hb6 z7 (by simp [go_sem]; rfl)
    have s8 := cells_keep (k := 8) hb6 z7 (by simp [go_sem]; rfl)
    have s9 := cells_keep (k := 9) hb6 z7 (by simp [go_sem]; rfl)
    have s10 := cells_keep (k := 10) hb6 z7 (by simp [go_sem]; rfl)
    have l1 := (k1.below hb6).more hb6.size
    have l2 := (k2.below hb6).more hb6.size
    have l3 := (k3.below hb6).more hb6.size
    have l4 := (k4.below hb6).more hb6.size
    have y6 := (y4.alloc y4.size (.cells #[.int .i64 p.tos, .int .i64 p.id, .bool p.df, .bool p.mf, .int .i64 p.off, .int .i64 p.ttl, .int .i64 p.proto, .int .u32 p.src, .int .u32 p.dst, .slice Ao' p.opts.length co', .slice Ab' p.body.length cb'] 25)).trans (hb6.mono (show w.heap.size ≤ (w4.alloc (.cells #[.int .i64 p.tos, .int .i64 p.id, .bool p.df, .bool p.mf, .int .i64 p.off, .int .i64 p.ttl, .int .i64 p.proto, .int .u32 p.src, .int .u32 p.dst, .slice Ao' p.opts.length co', .slice Ab' p.body.length cb'] 25)).heap.size by have := y4.size; simp; omega))
    have L1 := Go.Lib.hid l1
    have L2 := Go.Lib.hid l2
    have L3 := Go.Lib.hid l3
    have L4 := Go.Lib.hid l4
    clear k1 k2 k3 k4 l1 l2 l3 l4 hb6 HB1 HB2 HB3 HB4 hw5 z6 z7 y4 q0 q1 q2 q3 q4 q5 q6 q7 q8 q9 q10
    go_wp2_with fail
    obtain ⟨hM, ⟨ms0, ms1⟩, md0, md1⟩ := HMM.out
    refine (rsameP p Ao co Ab cb Ao' co' Ab' cb' _ hM ms0 ms1 md0 md1 L1.out N1.out L2.out L3.out N2.out L4.out).mono ?_
    rintro e w7 ⟨rfl, hb7⟩
    dsimp only
    have y7 := y6.trans (hb7.mono y6.size)
    clear r0 r1 r2 r3 r4 r5 r6 r7 r8 r9 r10 s0 s1 s2 s3 s4 s5 s6 s7 s8 s9 s10 hb7 y6
    go_wp2
    go_ret
    exact ⟨rfl, y7⟩
end Go.Proofs.Ytdbidhabpomlgaa
