/- The contract of package icmp's readHead. -/
import Derived.Test.YtndhiopfkgdhcaaIcmpA5
import Derived.Test.YtndhiopfkgdhcaaIpD
namespace Go.Proofs.Ytndhiopfkgdhcaa
open Go.ChangeShapes Go.WideShapes Go.ChangeAt Go.RowKit
set_option linter.unusedVariables false
set_option linter.unusedSimpArgs false

section
variable {Y Y' : World} {g B : Nat} {v0 v1 v2 v3 v4 v5 v6 v7 v8 v9 v10 : Value}
theorem C11.set2 (h : C11 Y g v0 v1 v2 v3 v4 v5 v6 v7 v8 v9 v10) (u : Value) : C11 (Y.setCell ⟨g, 2, none⟩ u) g v0 v1 u v3 v4 v5 v6 v7 v8 v9 v10 :=
  ⟨cell_set_other u h.c0 (.inr (by omega)), cell_set_other u h.c1 (.inr (by omega)), cell_set_same u h.c2, cell_set_other u h.c3 (.inr (by omega)), cell_set_other u h.c4 (.inr (by omega)), cell_set_other u h.c5 (.inr (by omega)), cell_set_other u h.c6 (.inr (by omega)), cell_set_other u h.c7 (.inr (by omega)), cell_set_other u h.c8 (.inr (by omega)), cell_set_other u h.c9 (.inr (by omega)), cell_set_other u h.c10 (.inr (by omega))⟩
theorem C11.set3 (h : C11 Y g v0 v1 v2 v3 v4 v5 v6 v7 v8 v9 v10) (u : Value) : C11 (Y.setCell ⟨g, 3, none⟩ u) g v0 v1 v2 u v4 v5 v6 v7 v8 v9 v10 :=
  ⟨cell_set_other u h.c0 (.inr (by omega)), cell_set_other u h.c1 (.inr (by omega)), cell_set_other u h.c2 (.inr (by omega)), cell_set_same u h.c3, cell_set_other u h.c4 (.inr (by omega)), cell_set_other u h.c5 (.inr (by omega)), cell_set_other u h.c6 (.inr (by omega)), cell_set_other u h.c7 (.inr (by omega)), cell_set_other u h.c8 (.inr (by omega)), cell_set_other u h.c9 (.inr (by omega)), cell_set_other u h.c10 (.inr (by omega))⟩
theorem C11.set4 (h : C11 Y g v0 v1 v2 v3 v4 v5 v6 v7 v8 v9 v10) (u : Value) : C11 (Y.setCell ⟨g, 4, none⟩ u) g v0 v1 v2 v3 u v5 v6 v7 v8 v9 v10 :=
  ⟨cell_set_other u h.c0 (.inr (by omega)), cell_set_other u h.c1 (.inr (by omega)), cell_set_other u h.c2 (.inr (by omega)), cell_set_other u h.c3 (.inr (by omega)), cell_set_same u h.c4, cell_set_other u h.c5 (.inr (by omega)), cell_set_other u h.c6 (.inr (by omega)), cell_set_other u h.c7 (.inr (by omega)), cell_set_other u h.c8 (.inr (by omega)), cell_set_other u h.c9 (.inr (by omega)), cell_set_other u h.c10 (.inr (by omega))⟩
end
/-- a packet that was made just now. -/
theorem c11_made (w : World) (v0 v1 v2 v3 v4 v5 v6 v7 v8 v9 v10 : Value) : C11 (w.alloc (.cells #[v0, v1, v2, v3, v4, v5, v6, v7, v8, v9, v10] 43)) w.heap.size v0 v1 v2 v3 v4 v5 v6 v7 v8 v9 v10 := by
  refine ⟨?_, ?_, ?_, ?_, ?_, ?_, ?_, ?_, ?_, ?_, ?_⟩ <;> simp [go_sem]

set_option maxRecDepth 100000 in
set_option maxHeartbeats 8000000 in
theorem ireadHead (A : Option Addr) (n c : Nat) (l : List UInt8) (w : World) (hn : l.length = n) (h : Bs w w.heap.size A l) (h20 : 20 ≤ n) (h60 : n ≤ 60) (h4 : n % 4 = 0) (h0 : g8 l 0 = 64 + (n : Int) / 4) (hnc : n ≤ c) (hc63 : c ≤ 9223372036854775807) :
    Calls Try.prog 42 #[.slice A n c] w fun e w' => ∃ Ao co Ab cb, e = .returned (pkV (rdP l []) Ao co Ab cb) ∧ GivesPk w w' (rdP l []) Ao co Ab cb := by
  obtain ⟨ad, rfl, hlt, _⟩ := g8_cells h (by omega)
  have HN := Go.Lib.hid hn
  have HB := Go.Lib.hid h
  have HAH := Go.Lib.hid (alone_hd l n hn (by omega) h4 h0)
  have HAP := Go.Lib.hid (alone_prs l n hn h20 h60 h4)
  have hPL : (hd (aloneP l) (chk (aloneP l))).length = n := by rw [hd_length]; show 20 + (l.drop 20).length = n; rw [List.length_drop, hn]; omega
  have HPL := Go.Lib.hid hPL
  have HPL0 : Hid ((hd (aloneP l) 0).length = n) := Go.Lib.hid (by rw [hd_length]; show 20 + (l.drop 20).length = n; rw [List.length_drop, hn]; omega)
  obtain ⟨k, hk⟩ : ∃ k : Int, 65535 - fo (tot (hd (aloneP l) 0)) = k := ⟨_, rfl⟩
  have k0 : 0 ≤ k := hk ▸ chk_lo (aloneP l)
  have k1 : k ≤ 65535 := hk ▸ chk_hi (aloneP l)
  have HK := Go.Lib.hid hk
  have HF : Hid (((hd (aloneP l) 0).set 10 (b8 (k / 256))).set (10 + 1) (b8 (k % 256)) = hd (aloneP l) (chk (aloneP l))) := Go.Lib.hid (by rw [hd_set, ← hk]; rfl)
  have hnc' : IntKind.u16.wrap (n : Int) = (n : Int) := IntWalk.u16_in _ (by omega)
  clear hn h hPL hk h0
  go_enter Try.func42, Try.ntmps42
  go_upto_region 1 with fail
  have x0 : Below (w.heap.size + 1) (Zw w) (Zw w) := Below.refl _ _
  have y0 := Zw.below x0
  have s0 := Zw.size x0
  rw [zw_is]
  generalize hW : Zw w = W at *
  go_wp2_with fail
  refine (icloneOwn ad n c l w.heap.size W HN.out (HB.out.below y0) y0.size (by omega) hnc (by omega)).mono ?_
  rintro e w1 ⟨g, kc, rfl, o1, b1⟩
  dsimp only
  have x1 := x0.trans (b1.mono s0)
  go_wp2_with fail
  refine (iputWord w1 W.heap.size g n kc _ o1 2 _ rfl (by omega) (by omega) (n : Int) (by omega) (by omega)).mono ?_
  rintro e w2 ⟨rfl, o2, b2⟩
  dsimp only
  have x2 := x1.trans (b2.mono s0)
  clear o1 b1 b2 x1
  go_wp2_with fail
  refine (iputWord w2 W.heap.size g n kc _ o2 6 _ rfl (by omega) (by omega) 0 (by omega) (by omega)).mono ?_
  rintro e w3 ⟨rfl, o3, b3⟩
  dsimp only
  have x3 := x2.trans (b3.mono s0)
  clear o2 b3 x2
  go_wp2_with fail
  refine (iputWord w3 W.heap.size g n kc _ o3 10 _ rfl (by omega) (by omega) 0 (by omega) (by omega)).mono ?_
  rintro e w4 ⟨rfl, o4, b4⟩
  dsimp only
  have x4 := x3.trans (b4.mono s0)
  rw [HAH.out] at o4
  clear o3 b4 x3
  have hcap := o4.cap
  unfold maxLen at hcap
  go_wp2_with fail
  refine (iof (some ⟨g, 0, none⟩) n kc (hd (aloneP l) 0) w4.heap.size _ k HK.out HPL0.out o4.bs (by omega) hcap.1 (by omega)).mono ?_
  rintro e w5 ⟨rfl, m5, rfl⟩
  dsimp only
  have o5 : Own (w4.drewN m5) W.heap.size g n kc (hd (aloneP l) 0) := o4
  have x5 := below_dn x4 m5
  clear o4 x4
  generalize w4.drewN m5 = w5 at *
  go_wp2_with fail
  refine (iputWord w5 W.heap.size g n kc _ o5 10 _ rfl (by omega) (by omega) k k0 k1).mono ?_
  rintro e w6 ⟨rfl, o6, b6⟩
  dsimp only
  have x6 := x5.trans (b6.mono s0)
  rw [HF.out] at o6
  clear o5 b6 x5
  go_wp2_with fail
  refine (cparse (some ⟨g, 0, none⟩) n kc (hd (aloneP l) (chk (aloneP l))) w6 HPL.out o6.bs (by omega) hcap.1 (by omega)).mono ?_
  rintro e w7 ⟨Ao, co, Ab, cb, rfl, hg⟩
  rw [HAP.out] at hg
  rw [HAP.out]
  dsimp only at hg
  dsimp only
  have x7 := x6.trans (hg.below.mono (Nat.le_trans s0 x6.size))
  have s6 : w.heap.size + 1 ≤ w6.heap.size := Nat.le_trans s0 x6.size
  have s7 : w.heap.size + 1 ≤ w7.heap.size := Nat.le_trans s0 x7.size
  obtain ⟨p, hp⟩ : ∃ p, aloneP l = p := ⟨_, rfl⟩
  rw [hp] at hg
  rw [hp]
  have HPP := Go.Lib.hid hp
  clear o6 x6 HAH HAP HPL HPL0 HK HF hp k0 k1
  go_upto_region 7 with fail
  have C7 := c11_made w7 (.int .i64 p.tos) (.int .i64 p.id) (.bool p.df) (.bool p.mf) (.int .i64 p.off) (.int .i64 p.ttl) (.int .i64 p.proto) (.int .u32 p.src) (.int .u32 p.dst) (.slice Ao p.opts.length co) (.slice Ab p.body.length cb)
  have y8 : Below w7.heap.size w7 (w7.alloc (.cells #[.int .i64 p.tos, .int .i64 p.id, .bool p.df, .bool p.mf, .int .i64 p.off, .int .i64 p.ttl, .int .i64 p.proto, .int .u32 p.src, .int .u32 p.dst, .slice Ao p.opts.length co, .slice Ab p.body.length cb] 43)) := (Below.refl _ _).alloc (Nat.le_refl _) _
  have f8 : ∀ o, (w7.alloc (.cells #[.int .i64 p.tos, .int .i64 p.id, .bool p.df, .bool p.mf, .int .i64 p.off, .int .i64 p.ttl, .int .i64 p.proto, .int .u32 p.src, .int .u32 p.dst, .slice Ao p.opts.length co, .slice Ab p.body.length cb] 43)).frozen? ⟨w7.heap.size, o, none⟩ = false := fun o => by simp [go_sem]
  have s8 : w7.heap.size < (w7.alloc (.cells #[.int .i64 p.tos, .int .i64 p.id, .bool p.df, .bool p.mf, .int .i64 p.off, .int .i64 p.ttl, .int .i64 p.proto, .int .u32 p.src, .int .u32 p.dst, .slice Ao p.opts.length co, .slice Ab p.body.length cb] 43)).heap.size := by simp
  generalize w7.alloc (.cells #[.int .i64 p.tos, .int .i64 p.id, .bool p.df, .bool p.mf, .int .i64 p.off, .int .i64 p.ttl, .int .i64 p.proto, .int .u32 p.src, .int .u32 p.dst, .slice Ao p.opts.length co, .slice Ab p.body.length cb] 43) = w8 at *
  have x8 := x7.trans (y8.mono s7)
  go_wp2_with fail
  refine (iword_y (some ad) n c l w.heap.size w8 HN.out (HB.out.below (y0.trans (x8.mono (Nat.le_succ _)))) 6 6 rfl (by omega) (by omega) (wd l 6) rfl).mono ?_
  rintro e w9 ⟨rfl, m9, rfl⟩
  dsimp only
  have C9 : C11 (w8.drewN m9) w7.heap.size (.int .i64 p.tos) (.int .i64 p.id) (.bool p.df) (.bool p.mf) (.int .i64 p.off) (.int .i64 p.ttl) (.int .i64 p.proto) (.int .u32 p.src) (.int .u32 p.dst) (.slice Ao p.opts.length co) (.slice Ab p.body.length cb) := ⟨C7.c0, C7.c1, C7.c2, C7.c3, C7.c4, C7.c5, C7.c6, C7.c7, C7.c8, C7.c9, C7.c10⟩
  have f9 : ∀ o, (w8.drewN m9).frozen? ⟨w7.heap.size, o, none⟩ = false := f8
  have y9 := below_dn y8 m9
  have x9 := below_dn x8 m9
  clear C7 f8 y8 x8 s8
  generalize w8.drewN m9 = w9 at *
  have a0 := wd_lo l 6
  have a1 := wd_hi l 6
  have m1 := u16_mask13 (wd l 6) a0 a1
  have m2 := u16_b14 (wd l 6) a0 a1
  have m3 := u16_b13 (wd l 6) a0 a1
  have t2 : (wd l 6 / 16384 % 2 * 16384 != 0) = decide (wd l 6 / 16384 % 2 = 1) := by rw [Bool.eq_iff_iff]; simp; omega
  have t3 : (wd l 6 / 8192 % 2 * 8192 != 0) = decide (wd l 6 / 8192 % 2 = 1) := by rw [Bool.eq_iff_iff]; simp; omega
  have r6 := IntWalk.i64_in (wd l 6 % 8192) (by omega)
  have s1 := IntWalk.i64_in (wd l 6 % 8192 * 8) (by omega)
  have q2 := C9.c2
  have q3 := C9.c3
  have q4 := C9.c4
  have g2 := f9 2
  have g3 := f9 3
  have g4 := f9 4
  go_upto_region 9 with fail
  have C10 := ((C9.set2 (.bool (decide (wd l 6 / 16384 % 2 = 1)))).set3 (.bool (decide (wd l 6 / 8192 % 2 = 1)))).set4 (.int .i64 (wd l 6 % 8192 * 8))
  have y10 : Below w7.heap.size w7 (((w9.setCell ⟨w7.heap.size, 2, none⟩ (.bool (decide (wd l 6 / 16384 % 2 = 1)))).setCell ⟨w7.heap.size, 3, none⟩ (.bool (decide (wd l 6 / 8192 % 2 = 1)))).setCell ⟨w7.heap.size, 4, none⟩ (.int .i64 (wd l 6 % 8192 * 8))) := ((y9.setCell (p := ⟨w7.heap.size, 2, none⟩) (Nat.le_refl _) _).setCell (p := ⟨w7.heap.size, 3, none⟩) (Nat.le_refl _) _).setCell (p := ⟨w7.heap.size, 4, none⟩) (Nat.le_refl _) _
  clear C9 f9 y9 x9 q2 q3 q4 g2 g3 g4 m1 m2 m3 t2 t3 r6 s1
  generalize ((w9.setCell ⟨w7.heap.size, 2, none⟩ (.bool (decide (wd l 6 / 16384 % 2 = 1)))).setCell ⟨w7.heap.size, 3, none⟩ (.bool (decide (wd l 6 / 8192 % 2 = 1)))).setCell ⟨w7.heap.size, 4, none⟩ (.int .i64 (wd l 6 % 8192 * 8)) = w10 at *
  have x10 := x7.trans (y10.mono s7)
  obtain ⟨⟨z0, z1, z2, z3, z4, z5, z6, z7, z8, z9, z10⟩, zf⟩ := zx_of (w := w) (by show Below _ (Zw w) _; rw [hW]; exact x10)
  have yF := Zw.below (w := w) (by rw [hW]; exact x10)
  obtain ⟨c0, c1, c2, c3, c4, c5, c6, c7, c8, c9, c10⟩ := C10
  have zf0 := zf 0
  have zf1 := zf 1
  have zf2 := zf 2
  have zf3 := zf 3
  have zf4 := zf 4
  have zf5 := zf 5
  have zf6 := zf 6
  have zf7 := zf 7
  have zf8 := zf 8
  have zf9 := zf 9
  have zf10 := zf 10
  have HV : Hid ((.agg #[.int .i64 p.tos, .int .i64 p.id, .bool (decide (wd l 6 / 16384 % 2 = 1)), .bool (decide (wd l 6 / 8192 % 2 = 1)), .int .i64 (wd l 6 % 8192 * 8), .int .i64 p.ttl, .int .i64 p.proto, .int .u32 p.src, .int .u32 p.dst, .slice Ao p.opts.length co, .slice Ab p.body.length cb] : Value) = pkV (rdP l []) Ao co Ab cb) := Go.Lib.hid (by have := HPP.out; subst this; rfl)
  have HG : Hid (GivesPk w (((((((((((w10.setCell ⟨w.heap.size, 0, none⟩ (.int .i64 p.tos)).setCell ⟨w.heap.size, 1, none⟩ (.int .i64 p.id)).setCell ⟨w.heap.size, 2, none⟩ (.bool (decide (wd l 6 / 16384 % 2 = 1)))).setCell ⟨w.heap.size, 3, none⟩ (.bool (decide (wd l 6 / 8192 % 2 = 1)))).setCell ⟨w.heap.size, 4, none⟩ (.int .i64 (wd l 6 % 8192 * 8))).setCell ⟨w.heap.size, 5, none⟩ (.int .i64 p.ttl)).setCell ⟨w.heap.size, 6, none⟩ (.int .i64 p.proto)).setCell ⟨w.heap.size, 7, none⟩ (.int .u32 p.src)).setCell ⟨w.heap.size, 8, none⟩ (.int .u32 p.dst)).setCell ⟨w.heap.size, 9, none⟩ (.slice Ao p.opts.length co)).setCell ⟨w.heap.size, 10, none⟩ (.slice Ab p.body.length cb)) (rdP l []) Ao co Ab cb) := Go.Lib.hid (by
    have := HPP.out
    subst this
    exact ⟨hg.olen, hg.ocap, hg.onil, (bs_set11 ((hg.obs.below y10).more y10.size) (fun ad e => by have := hg.ofresh ad e; omega) _ _ _ _ _ _ _ _ _ _ _).more (by rw [size_set11]; exact Nat.le_refl _), fun ad e => by have := hg.ofresh ad e; omega, hg.blen, hg.bcap, hg.bnil, (bs_set11 ((hg.bbs.below y10).more y10.size) (fun ad e => by have := hg.bfresh ad e; omega) _ _ _ _ _ _ _ _ _ _ _).more (by rw [size_set11]; exact Nat.le_refl _), fun ad e => by have := hg.bfresh ad e; omega, below_set11 yF _ _ _ _ _ _ _ _ _ _ _⟩)
  clear hg x7 y10 x10 yF hW zf HPP
  go_wp2
  all_goals
    refine bodyPost_ret (v := pkV (rdP l []) Ao co Ab cb) ?_ rfl ⟨Ao, co, Ab, cb, rfl, HG.out⟩
    rw [← HV.out]
    simp [results, Try.results42, go_sem, z0, z1, z2, z3, z4, z5, z6, z7, z8, z9, z10]
end Go.Proofs.Ytndhiopfkgdhcaa
