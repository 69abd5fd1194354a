/- The contract of package tcp's putHead. -/
import Derived.Test.YtghgemmbbedopaaTcpA5
namespace Go.Proofs.Ytghgemmbbedopaa
open Go.ChangeShapes Go.WideShapes Go.ChangeAt Go.RowKit
set_option linter.unusedVariables false
set_option linter.unusedSimpArgs false

theorem sets_seg (n m : Nat) (hn : n = 20 + m) (x0 x1 x2 x3 x4 x5 x6 x7 x8 x9 x10 x11 x12 x13 x14 x15 x18 x19 : UInt8) :
    ((((((((((((((((((List.replicate n (0 : UInt8)).set 0 x0).set (0 + 1) x1).set 2 x2).set (2 + 1) x3).set 4 x4).set (4 + 1) x5).set (4 + 2) x6).set (4 + 2 + 1) x7).set 8 x8).set (8 + 1) x9).set (8 + 2) x10).set (8 + 2 + 1) x11).set 12 x12).set 13 x13).set 14 x14).set (14 + 1) x15).set 18 x18).set (18 + 1) x19
      = [x0, x1, x2, x3, x4, x5, x6, x7, x8, x9, x10, x11, x12, x13, x14, x15, 0, 0, x18, x19] ++ List.replicate m 0 := by
  subst hn
  rw [← List.replicate_append_replicate]
  generalize List.replicate m (0 : UInt8) = R
  have e : List.replicate 20 (0 : UInt8) ++ R = 0 :: 0 :: 0 :: 0 :: 0 :: 0 :: 0 :: 0 :: 0 :: 0 :: 0 :: 0 :: 0 :: 0 :: 0 :: 0 :: 0 :: 0 :: 0 :: 0 :: R := rfl
  rw [e]
  simp only [List.set_cons_succ, List.set_cons_zero, Nat.reduceAdd, List.cons_append, List.nil_append]

theorem tputOpts_n (A0 : Option Addr) (A : Option Addr) (no co : Nat) (os : List Op) (B : Nat) (w : World) (g m n c : Nat) (h20 : List UInt8) (hnm : n = 20 + m) (hc20 : 20 ≤ c) (hO : Own w B g n c (h20 ++ List.replicate m 0)) (h20l : h20.length = 20) (hn : os.length = no) (h : Os w B A os) (hB : B ≤ w.heap.size) (hm : olen os ≤ m) (hm2 : m ≤ 16777216) (hc : c ≤ 16777216) (hA : 0 < m → A0 = some ⟨g, 20, none⟩) (hk : ∀ o ∈ os, 0 ≤ o.kind ∧ o.kind ≤ 255 ∧ o.data.length ≤ 253) :
    Calls Try.prog 43 #[.slice A0 (n - 20) (c - 20), .slice A no co] w fun e w' => e = .returned (.tuple #[]) ∧ Own w' B g n c (optL h20 os m os.length) ∧ Below B w w' := by
  obtain ⟨c', rfl⟩ : ∃ c', c = 20 + c' := ⟨c - 20, by omega⟩
  subst hnm
  rw [Nat.add_sub_cancel_left, Nat.add_sub_cancel_left]
  exact tputOpts A0 A no co os B w g m c' h20 hO h20l hn h hB hm hm2 (by omega) hA hk
/-- the head of a segment whose check sum is not yet put. -/
def headT (t : Tc) : List UInt8 := seg20 t 0 ++ padB t.opts
theorem headT_length (t : Tc) : (headT t).length = thl t.opts := by simp [headT, seg20, padB_length, thl]; omega
theorem optL_all (t : Tc) (m : Nat) (hm : m = olen t.opts + padN (olen t.opts)) (h20 : List UInt8) (h : h20 = seg20 t 0) : optL h20 t.opts m t.opts.length = headT t := by
  unfold optL headT padB
  rw [List.take_length, h, hm, show olen t.opts + padN (olen t.opts) - olen t.opts = padN (olen t.opts) by omega]

set_option maxRecDepth 100000 in
set_option maxHeartbeats 8000000 in
theorem tputHead (t : Tc) (Ao : Option Addr) (co : Nat) (Ab : Option Addr) (cb : Nat) (w : World) (hM : MayT t) (hs0 : 0 ≤ t.seq) (hs1 : t.seq ≤ 4294967295) (hd0 : 0 ≤ t.ack) (hd1 : t.ack ≤ 4294967295)
    (hAo : Os w w.heap.size Ao t.opts) :
    Calls Try.prog 23 #[tcV t Ao co Ab cb] w fun e w' => ∃ g c, e = .returned (.slice (some ⟨g, 0, none⟩) (thl t.opts) c) ∧ Own w' w.heap.size g (thl t.opts) c (headT t) ∧ Below w.heap.size w w' := by
  obtain ⟨i0, hi, hz0, hz1, hz2⟩ := info_parts info_byte
  obtain ⟨s0, s1, d0, d1, w0, w1, u0, u1, f0, f1, ho, fit⟩ := hM
  have h40 := right_olen _ ho
  have hpad := padN_spec (olen t.opts)
  have hosm : Osm t.opts := by
    have h1 : ∀ o ∈ t.opts, o.data.length ≤ olen t.opts := by
      intro o ho
      obtain ⟨i, hi, rfl⟩ := List.getElem_of_mem ho
      have := olen_take_succ t.opts i hi
      have := olen_take_le t.opts (i + 1)
      omega
    have h2 : 2 * t.opts.length ≤ olen t.opts := by
      generalize t.opts = os
      induction os with
      | nil => simp
      | cons o r ih => simp only [olen, List.length_cons]; omega
    exact ⟨by omega, fun o ho => by have := h1 o ho; omega⟩
  obtain ⟨m, hm⟩ : ∃ m : Nat, m = olen t.opts + padN (olen t.opts) := ⟨_, rfl⟩
  obtain ⟨n, hn⟩ : ∃ n : Nat, n = 20 + m := ⟨_, rfl⟩
  have hnt : thl t.opts = n := by rw [hn, hm]; rfl
  obtain ⟨c, hc⟩ : ∃ c : Nat, c = n + t.body.length := ⟨_, rfl⟩
  have HM := Go.Lib.hid hm
  have HN := Go.Lib.hid hn
  have HC := Go.Lib.hid hc
  have HT := Go.Lib.hid hnt
  have HOM := Go.Lib.hid hosm
  have HK : Hid (∀ o ∈ t.opts, 0 ≤ o.kind ∧ o.kind ≤ 255 ∧ o.data.length ≤ 253) := Go.Lib.hid (by
    intro o hoo
    obtain ⟨i, hi, rfl⟩ := List.getElem_of_mem hoo
    have g := (goodAt_iff _ i hi).1 ((rightB_iff _).1 ho i hi)
    have := olen_take_succ t.opts i hi
    have := olen_take_le t.opts (i + 1)
    exact ⟨by have := g.k0; omega, g.k1, by omega⟩)
  have hn60 : n ≤ 60 := by omega
  have hn20 : 20 ≤ n := by omega
  have hb65 : t.body.length ≤ 65535 := by omega
  have hc65 : c ≤ 65535 := by rw [hc, ← hnt]; exact fit
  have hnc : n ≤ c := by omega
  have hc' : (n : Int) + (t.body.length : Int) = (c : Int) := by omega
  have hmk : ∀ W : World, (Instr.makeSlice 24 (.int .i64 (n : Int)) (.int .i64 (c : Int))).run Try.prog W = .ok (.slice (some ⟨W.heap.size, 0, none⟩) n c) (W.alloc (.cells (madeCells #[.int .u8 0] c) 5)) := by
    intro W
    have := run_make (P := Try.prog) W 24 5 i0 (.int .u8 0) Try.underlying24 hi hz0 .i64 .i64 n c (by omega) (by omega) (by rw [hz2]; omega) (by omega)
    simpa [hz1, Value.cells] using this
  have e1 := IntWalk.i64_in (n : Int) (by omega)
  have e2 : IntKind.i64.wrap ((n : Int) + (t.body.length : Int)) = (c : Int) := by rw [hc']; exact IntWalk.i64_in _ (by omega)
  have m0 := tcIs.made (w := w) (t := t) (A_opts := Ao) (c_opts := co) (A_body := Ab) (c_body := cb)
  have b0 : Below w.heap.size w (w.alloc (.cells #[.int .i64 t.sport, .int .i64 t.dport, .int .u32 t.seq, .int .u32 t.ack, .int .i64 t.flags, .int .i64 t.win, .int .i64 t.urg, .slice Ao t.opts.length co, .slice Ab t.body.length cb] 26)) := (Below.refl _ _).alloc (Nat.le_refl _) _
  have sz : w.heap.size + 1 ≤ (w.alloc (.cells #[.int .i64 t.sport, .int .i64 t.dport, .int .u32 t.seq, .int .u32 t.ack, .int .i64 t.flags, .int .i64 t.win, .int .i64 t.urg, .slice Ao t.opts.length co, .slice Ab t.body.length cb] 26)).heap.size := by simp
  clear hn hc hc' hm hnt ho fit hpad hosm h40
  go_enter Try.func23, Try.ntmps23
  go_upto_region 1 with fail
  generalize w.alloc (.cells #[.int .i64 t.sport, .int .i64 t.dport, .int .u32 t.seq, .int .u32 t.ack, .int .i64 t.flags, .int .i64 t.win, .int .i64 t.urg, .slice Ao t.opts.length co, .slice Ab t.body.length cb] 26) = W at *
  have M0 := Go.Lib.hid m0
  have K : ∀ Y, Below (w.heap.size + 1) W Y → Y.cell? ⟨w.heap.size, 0, none⟩ = some (.int .i64 t.sport) ∧ Y.cell? ⟨w.heap.size, 1, none⟩ = some (.int .i64 t.dport) ∧ Y.cell? ⟨w.heap.size, 2, none⟩ = some (.int .u32 t.seq) ∧ Y.cell? ⟨w.heap.size, 3, none⟩ = some (.int .u32 t.ack) ∧ Y.cell? ⟨w.heap.size, 4, none⟩ = some (.int .i64 t.flags) ∧ Y.cell? ⟨w.heap.size, 5, none⟩ = some (.int .i64 t.win) ∧ Y.cell? ⟨w.heap.size, 6, none⟩ = some (.int .i64 t.urg) ∧ Y.cell? ⟨w.heap.size, 7, none⟩ = some (.slice Ao t.opts.length co) ∧ Y.cell? ⟨w.heap.size, 8, none⟩ = some (.slice Ab t.body.length cb) := fun Y y => (M0.out.keep y (Nat.lt_succ_self _)).cells
  obtain ⟨c0, c1, c2, c3, c4, c5, c6, c7, c8⟩ := m0.cells
  clear m0
  go_wp2_with fail
  refine (theadLen t Ao co Ab cb W n HT.out w.heap.size (hAo.below b0) b0.size HOM.out).mono ?_
  rintro e w1 ⟨rfl, hb1⟩
  dsimp only
  have x1 : Below (w.heap.size + 1) W w1 := hb1.mono sz
  clear hb1 c0 c1 c2 c3 c4 c5 c6 c7 c8
  obtain ⟨_, _, _, _, _, _, _, _, k8⟩ := K _ x1
  go_upto_region 3 with fail
  have zz : w.heap.size + 1 ≤ w1.heap.size := Nat.le_trans sz x1.size
  have o1 := own_made w1 (w.heap.size + 1) n c zz hnc (by unfold maxLen; omega)
  have x2 := x1.trans ((Below.refl _ _).alloc zz (.cells (madeCells #[.int .u8 0] c) 5))
  clear x1 k8 hmk zz
  generalize w1.alloc (.cells (madeCells #[.int .u8 0] c) 5) = w2 at *
  generalize w1.heap.size = g at *
  obtain ⟨kk, _, _, _, _, _, _, _, _⟩ := K _ x2
  have y1 := IntWalk.u16_in t.sport (by omega)
  go_wp2_with fail
  refine (tputWord w2 (w.heap.size + 1) g n c _ o1 0 _ rfl (by omega) (by omega) t.sport (by omega) (by omega)).mono ?_
  rintro e w3 ⟨rfl, o2, b2⟩
  dsimp only
  have x3 := x2.trans b2
  clear y1 o1 x2 b2 kk
  obtain ⟨_, kk, _, _, _, _, _, _, _⟩ := K _ x3
  have y1 := IntWalk.u16_in t.dport (by omega)
  go_wp2_with fail
  refine (tputWord w3 (w.heap.size + 1) g n c _ o2 2 _ rfl (by omega) (by omega) t.dport (by omega) (by omega)).mono ?_
  rintro e w4 ⟨rfl, o3, b3⟩
  dsimp only
  have x4 := x3.trans b3
  clear y1 o2 x3 b3 kk
  obtain ⟨_, _, kk, _, _, _, _, _, _⟩ := K _ x4
  go_wp2_with fail
  refine (tputLong w4 (w.heap.size + 1) g n c _ o3 4 _ rfl (by omega) (by omega) t.seq (by omega) (by omega)).mono ?_
  rintro e w5 ⟨rfl, o4, b4⟩
  dsimp only
  have x5 := x4.trans b4
  clear o3 x4 b4 kk
  obtain ⟨_, _, _, kk, _, _, _, _, _⟩ := K _ x5
  go_wp2_with fail
  refine (tputLong w5 (w.heap.size + 1) g n c _ o4 8 _ rfl (by omega) (by omega) t.ack (by omega) (by omega)).mono ?_
  rintro e w6 ⟨rfl, o5, b5⟩
  dsimp only
  have x6 := x5.trans b5
  clear o4 x5 b5 kk
  go_upto_region 7 with fail
  have y1 := IntWalk.i64_in ((n : Int) / 4 * 16) (by omega)
  have y2 := IntWalk.u8_in ((n : Int) / 4 * 16) (by omega)
  have i0 : (12 : Int) < (n : Int) := by omega
  have c0 := o5.cellAt 12 (by omega)
  have z0 := o5.frozenAt 12
  go_upto_region 8 with fail
  obtain ⟨o6, b6⟩ := o5.stored 12 ((n : Int) / 4 * 16) (by omega) (by omega)
  have x7 := x6.trans b6
  clear y1 y2 i0 c0 z0 o5 x6 b6
  generalize w6.setCell ⟨g, 12, none⟩ (.int .u8 ((n : Int) / 4 * 16)) = w7 at *
  obtain ⟨_, _, _, _, kk, _, _, _, _⟩ := K _ x7
  have y1 := IntWalk.u8_in t.flags (by omega)
  have i0 : (13 : Int) < (n : Int) := by omega
  have c0 := o6.cellAt 13 (by omega)
  have z0 := o6.frozenAt 13
  go_upto_region 9 with fail
  obtain ⟨o7, b7⟩ := o6.stored 13 t.flags (by omega) (by omega)
  have x8 := x7.trans b7
  clear y1 i0 c0 z0 o6 x7 b7 kk
  generalize w7.setCell ⟨g, 13, none⟩ (.int .u8 t.flags) = w8 at *
  obtain ⟨_, _, _, _, _, kk, _, _, _⟩ := K _ x8
  have y1 := IntWalk.u16_in t.win (by omega)
  go_wp2_with fail
  refine (tputWord w8 (w.heap.size + 1) g n c _ o7 14 _ rfl (by omega) (by omega) t.win (by omega) (by omega)).mono ?_
  rintro e w9 ⟨rfl, o8, b8⟩
  dsimp only
  have x9 := x8.trans b8
  clear y1 o7 x8 b8 kk
  obtain ⟨_, _, _, _, _, _, kk, _, _⟩ := K _ x9
  have y1 := IntWalk.u16_in t.urg (by omega)
  go_wp2_with fail
  refine (tputWord w9 (w.heap.size + 1) g n c _ o8 18 _ rfl (by omega) (by omega) t.urg (by omega) (by omega)).mono ?_
  rintro e w10 ⟨rfl, o9, b9⟩
  dsimp only
  have x10 := x9.trans b9
  clear y1 o8 x9 b9 kk
  obtain ⟨_, _, _, _, _, _, _, k7, _⟩ := K _ x10
  have i20 : (20 : Int) ≤ (n : Int) := by omega
  have i21 : (20 : Int) ≤ (c : Int) := by omega
  go_upto_region 11 with fail
  go_still_tail 4, (by kernel_rfl)
  change wpList _ _ _ _ _ w10.drew
  have o10 : Own w10.drew (w.heap.size + 1) g n c _ := o9
  have x11 : Below (w.heap.size + 1) W w10.drew := below_drew x10
  clear o9 x10 k7
  generalize w10.drew = w11 at *
  rw [sets_seg n m HN.out] at o10
  have HA : 0 < m → (if c = 20 then (some ⟨g, 0, none⟩ : Option Addr) else some ⟨g, 20, none⟩) = some ⟨g, 20, none⟩ := fun h => if_neg (by have := HN.out; omega)
  generalize (if c = 20 then (some ⟨g, 0, none⟩ : Option Addr) else some ⟨g, 20, none⟩) = A54 at *
  have hos : Os w11 (w.heap.size + 1) Ao t.opts := (((hAo.below b0).more (Nat.le_succ _)).below x11)
  have H10 := Go.Lib.hid o10
  have HAA := Go.Lib.hid HA
  have HOS := Go.Lib.hid hos
  clear o10 HA hos
  go_wp2_with fail
  refine (tputOpts_n A54 Ao t.opts.length co t.opts (w.heap.size + 1) w11 g m n c _ HN.out (by omega) H10.out rfl rfl HOS.out (Nat.le_trans sz x11.size) (by have := HM.out; omega) (by have := HN.out; omega) (by omega) HAA.out HK.out).mono ?_
  rintro e w12 ⟨rfl, o12, b12⟩
  dsimp only
  have hhead : optL [b8 (t.sport / 256), b8 (t.sport % 256), b8 (t.dport / 256), b8 (t.dport % 256), b8 (t.seq / 65536 / 256),
        b8 (t.seq / 65536 % 256), b8 (t.seq % 65536 / 256), b8 (t.seq % 65536 % 256), b8 (t.ack / 65536 / 256),
        b8 (t.ack / 65536 % 256), b8 (t.ack % 65536 / 256), b8 (t.ack % 65536 % 256), b8 ((n : Int) / 4 * 16),
        b8 t.flags, b8 (t.win / 256), b8 (t.win % 256), 0, 0, b8 (t.urg / 256), b8 (t.urg % 256)] t.opts m t.opts.length = headT t := by
    refine optL_all t m HM.out _ ?_
    unfold seg20
    rw [HT.out]
    have v1 : t.seq / 65536 / 256 = t.seq / 16777216 := by omega
    have v2 : t.seq % 65536 / 256 = t.seq / 256 % 256 := by omega
    have v3 : t.seq % 65536 % 256 = t.seq % 256 := by omega
    have v4 : t.ack / 65536 / 256 = t.ack / 16777216 := by omega
    have v5 : t.ack % 65536 / 256 = t.ack / 256 % 256 := by omega
    have v6 : t.ack % 65536 % 256 = t.ack % 256 := by omega
    rw [v1, v2, v3, v4, v5, v6]
    rfl
  rw [hhead] at o12
  have HF : Hid (Own w12 w.heap.size g (thl t.opts) c (headT t)) := Go.Lib.hid (HT.out ▸ World.ownsRow.mono o12 (Nat.le_succ _))
  have xF := b0.trans ((x11.trans b12).mono (Nat.le_succ _))
  clear o12 x11 b12 H10
  go_wp2
  go_ret
  exact ⟨g, c, by rw [HT.out]; rfl, HF.out, xF⟩
end Go.Proofs.Ytghgemmbbedopaa
