/- Statements of layer 3, walked: what is put has as many bytes as its head says. -/
import Derived.Test.YtdbidhabpomlgaaIpL
namespace Go.Proofs.Ytdbidhabpomlgaa
open Go.ChangeShapes Go.WideShapes Go.ChangeAt Go.RowKit
set_option linter.unusedVariables false

theorem upx {P : Program} {f : FuncId} {args : Array Value} {w W : World} {B : Nat} {v : Value} (h : Calls P f args w fun e w' => e = .returned v ∧ Below w.heap.size w w') (hb : Below B W w) (hB : B ≤ w.heap.size) :
    Calls P f args w fun e w' => e = .returned v ∧ Below w.heap.size w w' ∧ Below B W w' :=
  h.mono fun _ _ ⟨he, hw⟩ => ⟨he, hw, hb.trans (hw.mono hB)⟩
theorem rshortF (p : Pk) (Ao : Option Addr) (co : Nat) (Ab : Option Addr) (cb : Nat) (b : Bool) (h : (decide (p.opts.length ≤ 100) && decide (p.body.length ≤ 3000)) = b) (w : World) :
    Calls Try.prog 9 #[pkV p Ao co Ab cb] w fun e w' => e = .returned (.bool b) ∧ Below w.heap.size w w' := h ▸ rshort p Ao co Ab cb w
theorem cputN (p : Pk) (Ao : Option Addr) (co : Nat) (Ab : Option Addr) (cb : Nat) (w : World) (n : Nat) (hn : n = 20 + p.opts.length + p.body.length) (hM : May p) (hr : Rng p)
    (hAo : Bs w w.heap.size Ao p.opts) (hAb : Bs w w.heap.size Ab p.body) (hnil : Ab = none → cb = 0) :
    Calls Try.prog 10 #[pkV p Ao co Ab cb] w fun e w' => ∃ g c, e = .returned (.tuple #[.slice (some ⟨g, 0, none⟩) n c, .int .i64 0]) ∧ Own w' w.heap.size g n c (putB p) ∧ Below w.heap.size w w' := by
  subst hn
  exact cputYes p Ao co Ab cb w hM hr.s0 hr.s1 hr.d0 hr.d1 hAo hAb hnil

theorem rsum_x (A : Option Addr) (n c : Nat) (l : List UInt8) (B : Nat) (W X : World) (r : Int) (hr : fo (tot l) = r) (hn : l.length = n) (h : Bs W B A l) (hB : B ≤ W.heap.size) (hl : n ≤ 16777216) (hlc : n ≤ c) (x : Below W.heap.size W X) :
    Calls Try.prog 18 #[.slice A n c] X fun e w' => e = .returned (.int .u16 r) ∧ Below W.heap.size W w' :=
  (rsum_n A n c l B X hn (h.below (x.mono hB)) (Nat.le_trans hB x.size) hl hlc).mono fun e w' ⟨he, hw⟩ => ⟨by rw [he, hr], x.trans (hw.mono x.size)⟩
theorem rsame_x (A : Option Addr) (n c : Nat) (a : List UInt8) (A' : Option Addr) (n' c' : Nat) (b : List UInt8) (B B' : Nat) (W X : World) (r : Bool) (hr : (a == b) = r) (hn : a.length = n) (hn' : b.length = n') (h : Bs W B A a) (hB : B ≤ W.heap.size) (h' : Bs W B' A' b) (hB' : B' ≤ W.heap.size) (hl : n ≤ 16777216) (hl' : n' ≤ 16777216) (x : Below W.heap.size W X) :
    Calls Try.prog 12 #[.slice A n c, .slice A' n' c'] X fun e w' => e = .returned (.bool r) ∧ ∃ m, w' = X.drewN m :=
  rsame_d A n c a A' n' c' b B B' X hn hn' (h.below (x.mono hB)) (h'.below (x.mono hB')) hl hl' r hr

theorem rdLast {k0 k1 k2 k3 k4 k5 k6 k7 k8 k9 k10 k11 k12 k13 k14 k15 : Prop} {B : Nat} {a w' : World} (h : k0 ∧ k1 ∧ k2 ∧ k3 ∧ k4 ∧ k5 ∧ k6 ∧ k7 ∧ k8 ∧ k9 ∧ k10 ∧ k11 ∧ k12 ∧ k13 ∧ k14 ∧ k15 ∧ Below B a w') : Below B a w' := h.2.2.2.2.2.2.2.2.2.2.2.2.2.2.2.2
theorem putB_take (p : Pk) : (putB p).take (20 + p.opts.length) = hd p (chk p) := by
  unfold putB
  rw [← hd_length p (chk p), List.take_left]
theorem putB_opts (p : Pk) : ((putB p).take (20 + p.opts.length)).drop 20 = p.opts := by
  rw [putB_take]
  unfold hd
  rw [List.drop_append_of_le_length (by simp [hd20])]
  simp [hd20]
theorem putB_body (p : Pk) : (putB p).drop (20 + p.opts.length) = p.body := by
  unfold putB
  rw [← hd_length p (chk p), List.drop_left]

set_option maxRecDepth 100000 in
set_option maxHeartbeats 4000000 in
theorem laid (p : Pk) (Ao : Option Addr) (co : Nat) (Ab : Option Addr) (cb : Nat) (w : World) (h : PkIn w p Ao co Ab cb) :
    Calls Try.prog 7 #[pkV p Ao co Ab cb] w fun e w' => e = .returned (.bool true) ∧ Below w.heap.size w w' := by
  have HI := Go.Lib.hid h
  clear h
  go_enter Try.func7, Try.ntmps7
  go_wp2_with fail
  refine (awake _).mono ?_
  rintro e w1 ⟨rfl, hb1⟩
  dsimp only
  have x1 := (Bx.start (p := p) (Ao := Ao) (co := co) (Ab := Ab) (cb := cb) (w := w)).call hb1
  clear hb1
  obtain ⟨c0, c1, c2, c3, c4, c5, c6, c7, c8, c9, c10⟩ := x1.cells
  by_cases hS : p.opts.length ≤ 100 ∧ p.body.length ≤ 3000
  · obtain ⟨s1, s2⟩ := hS
    go_wp2_with fail
    refine (rshortF p Ao co Ab cb true (by simp [s1, s2]) _).mono ?_
    rintro e w2 ⟨rfl, hb2⟩
    dsimp only
    have x2 := x1.call hb2
    clear hb2 x1 c0 c1 c2 c3 c4 c5 c6 c7 c8 c9 c10
    obtain ⟨c0, c1, c2, c3, c4, c5, c6, c7, c8, c9, c10⟩ := x2.cells
    by_cases hM : mayB p = true
    · have M := (mayB_iff p).1 hM
      have p40 := M.p40
      have M5 := M.l0
      have M6 := M.l1
      have M7 := M.r0
      have M8 := M.r1
      have HM := Go.Lib.hid M
      obtain ⟨s, hs⟩ : ∃ s : Nat, s = 20 + p.opts.length := ⟨_, rfl⟩
      obtain ⟨n, hn⟩ : ∃ n : Nat, n = 20 + p.opts.length + p.body.length := ⟨_, rfl⟩
      have hs' : 20 + (p.opts.length : Int) = (s : Int) := by omega
      have hn' : (s : Int) + (p.body.length : Int) = (n : Int) := by omega
      have hns : s ≤ n := by omega
      have hs60 : s ≤ 60 := by omega
      have hs20 : 20 ≤ s := by omega
      have hn3 : n ≤ 3060 := by omega
      have hob : s - 20 = p.opts.length := by omega
      have hbb : n - s = p.body.length := by omega
      have HOB := Go.Lib.hid hob
      have HBB := Go.Lib.hid hbb
      have HSS := Go.Lib.hid hs
      have HN := Go.Lib.hid hn
      obtain ⟨g0, g1, g2, g4, g6, g8', g9, g12, g16⟩ := put_bytes p (chk p) p.body M HI.out.rng (chk_lo p) (chk_hi p)
      have eP : putB p = hd p (chk p) ++ p.body := rfl
      rw [← eP] at g0 g1 g2 g4 g6 g8' g9 g12 g16
      have G0 : g8 (putB p) 0 = 64 + (s : Int) / 4 := by rw [g0]; unfold hln; rw [hs']
      have G2 : g8 (putB p) 2 * 256 + g8 (putB p) 3 = (n : Int) := by
        have : wd (putB p) 2 = g8 (putB p) 2 * 256 + g8 (putB p) 3 := rfl
        rw [← this, g2]; unfold whl hln; omega
      have L2 := g8_lo (putB p) 2
      have U2 := g8_hi (putB p) 2
      have L3 := g8_lo (putB p) 3
      have U3 := g8_hi (putB p) 3
      have HSum : Hid (fo (tot ((putB p).take s)) = 65535) := Go.Lib.hid (by rw [hs, putB_take, hd_sum])
      have HL1 : Hid (((putB p).take s).length = s) := Go.Lib.hid (by rw [List.length_take, putB_length]; omega)
      have HOo : Hid (((putB p).take s).drop 20 = p.opts) := Go.Lib.hid (by rw [hs, putB_opts])
      have HOb : Hid ((putB p).drop s = p.body) := Go.Lib.hid (by rw [hs, putB_body])
      clear hM hs hn hob hbb g0 g1 g2 g4 g6 g12 g16 eP
      go_wp2_with fail
      refine (cputN p Ao co Ab cb _ n HN.out HM.out HI.out.rng ((HI.out.obs.below x2.below).more x2.below.size) ((HI.out.bbs.below x2.below).more x2.below.size) HI.out.bnil).mono ?_
      rintro e w3 ⟨g, c, rfl, hown, hb3⟩
      dsimp only
      have x3 := x2.call hb3
      have hcap := hown.cap
      clear hb3 x2 c0 c1 c2 c3 c4 c5 c6 c7 c8 c9 c10
      obtain ⟨c0, c1, c2, c3, c4, c5, c6, c7, c8, c9, c10⟩ := x3.cells
      have b0 := hown.cellAt 0 (by omega)
      have b2 := hown.cellAt 2 (by omega)
      have b3 := hown.cellAt 3 (by omega)
      rw [G0] at b0
      have i0 : 0 < n := by omega
      have i2 : (2 : Int) < (n : Int) := by omega
      have i3 : (3 : Int) < (n : Int) := by omega
      have e0 := IntWalk.i64_in (64 + (s : Int) / 4) (by omega)
      have e2 := IntWalk.i64_in (g8 (putB p) 2) (by omega)
      have e3 := IntWalk.i64_in (g8 (putB p) 3) (by omega)
      have e4 := IntWalk.i64_in (g8 (putB p) 2 * 256) (by omega)
      have e5 := IntWalk.i64_in (n : Int) (by omega)
      have e6 := IntWalk.i64_in (s : Int) (by omega)
      have b8 := hown.cellAt 8 (by omega)
      have b9 := hown.cellAt 9 (by omega)
      rw [g8'] at b8
      rw [g9] at b9
      have i8 : (8 : Int) < (n : Int) := by omega
      have i9 : (9 : Int) < (n : Int) := by omega
      have e7 := IntWalk.i64_in p.ttl (by omega)
      have e8 := IntWalk.i64_in p.proto (by omega)
      have D1 : IntKind.i64.wrap ((s : Int).tdiv 4) = (s : Int) / 4 := IntWalk.i64_quo _ _ ⟨by omega, by omega, by omega⟩
      have D2 : IntKind.i64.wrap ((s : Int) / 4) = (s : Int) / 4 := IntWalk.i64_in _ (by omega)
      have hgl := hown.lt.2
      have hbl : w.heap.size < w3.heap.size := x3.size
      have K : ∀ Y, Below w3.heap.size w3 Y → Y.cell? ⟨w.heap.size, 0, none⟩ = some (.int .i64 p.tos) ∧ Y.cell? ⟨w.heap.size, 1, none⟩ = some (.int .i64 p.id) ∧ Y.cell? ⟨w.heap.size, 2, none⟩ = some (.bool p.df) ∧ Y.cell? ⟨w.heap.size, 3, none⟩ = some (.bool p.mf) ∧ Y.cell? ⟨w.heap.size, 4, none⟩ = some (.int .i64 p.off) ∧ Y.cell? ⟨w.heap.size, 5, none⟩ = some (.int .i64 p.ttl) ∧ Y.cell? ⟨w.heap.size, 6, none⟩ = some (.int .i64 p.proto) ∧ Y.cell? ⟨w.heap.size, 7, none⟩ = some (.int .u32 p.src) ∧ Y.cell? ⟨w.heap.size, 8, none⟩ = some (.int .u32 p.dst) ∧ Y.cell? ⟨w.heap.size, 9, none⟩ = some (.slice Ao p.opts.length co) ∧ Y.cell? ⟨w.heap.size, 10, none⟩ = some (.slice Ab p.body.length cb) ∧ Y.cell? ⟨g, 0, none⟩ = some (.int .u8 (64 + (s : Int) / 4)) ∧ Y.cell? ⟨g, 2, none⟩ = some (.int .u8 (g8 (putB p) 2)) ∧ Y.cell? ⟨g, 3, none⟩ = some (.int .u8 (g8 (putB p) 3)) ∧ Y.cell? ⟨g, 8, none⟩ = some (.int .u8 p.ttl) ∧ Y.cell? ⟨g, 9, none⟩ = some (.int .u8 p.proto) ∧ Below w3.heap.size w3 Y := fun Y hb => ⟨cells_keep hb hbl c0, cells_keep hb hbl c1, cells_keep hb hbl c2, cells_keep hb hbl c3, cells_keep hb hbl c4, cells_keep hb hbl c5, cells_keep hb hbl c6, cells_keep hb hbl c7, cells_keep hb hbl c8, cells_keep hb hbl c9, cells_keep hb hbl c10, cells_keep hb hgl b0, cells_keep hb hgl b2, cells_keep hb hgl b3, cells_keep hb hgl b8, cells_keep hb hgl b9, hb⟩
      have HB := Go.Lib.hid hown.bs
      have hc1 := hcap.1
      have hc2 := hcap.2
      unfold maxLen at hc2
      have hsc : (s : Int) ≤ (c : Int) := by omega
      have h20s : (20 : Int) ≤ (s : Int) := by omega
      have hsn : (s : Int) ≤ (n : Int) := by omega
      have HBo : Hid (Bs w3 w3.heap.size (if c = 20 then (some ⟨g, 0, none⟩ : Option Addr) else some ⟨g, 20, none⟩) p.opts) := Go.Lib.hid (by
        have := (HB.out.take s).cut 20 c (by rw [HL1.out]; omega) (by omega)
        rw [HOo.out] at this
        simpa using this)
      have HBb : Hid (Bs w3 w3.heap.size (if c = s then (some ⟨g, 0, none⟩ : Option Addr) else some ⟨g, s, none⟩) p.body) := Go.Lib.hid (by
        have := HB.out.cut s c (by rw [hown.len]; omega) (by omega)
        rw [HOb.out] at this
        simpa using this)
      have HSo : Hid ((p.opts == p.opts) = true) := Go.Lib.hid (by simp)
      have HSb : Hid ((p.body == p.body) = true) := Go.Lib.hid (by simp)
      have HAo : Hid (Bs w3 w.heap.size Ao p.opts) := Go.Lib.hid (HI.out.obs.below x3.below)
      have HAb : Hid (Bs w3 w.heap.size Ab p.body) := Go.Lib.hid (HI.out.bbs.below x3.below)
      have HO1 : Hid (p.opts.length = s - 20) := Go.Lib.hid HOB.out.symm
      have HB1 : Hid (p.body.length = n - s) := Go.Lib.hid HBB.out.symm
      have j1 : s - 20 ≤ 16777216 := by omega
      have j2 : n - s ≤ 16777216 := by omega
      have j3 : s ≤ 16777216 := by omega
      have j4 : s ≤ c := by omega
      have j5 : p.opts.length ≤ 16777216 := by omega
      have j6 : p.body.length ≤ 16777216 := by omega
      have y3 := x3.below
      clear hown hcap x3 g8' g9
      go_upto_region 9 with fail
      simp only [List.append_eq, List.cons_append, List.nil_append]
      go_region_held3 (fun Y => Y.cell? ⟨w.heap.size, 0, none⟩ = some (.int .i64 p.tos) ∧ Y.cell? ⟨w.heap.size, 1, none⟩ = some (.int .i64 p.id) ∧ Y.cell? ⟨w.heap.size, 2, none⟩ = some (.bool p.df) ∧ Y.cell? ⟨w.heap.size, 3, none⟩ = some (.bool p.mf) ∧ Y.cell? ⟨w.heap.size, 4, none⟩ = some (.int .i64 p.off) ∧ Y.cell? ⟨w.heap.size, 5, none⟩ = some (.int .i64 p.ttl) ∧ Y.cell? ⟨w.heap.size, 6, none⟩ = some (.int .i64 p.proto) ∧ Y.cell? ⟨w.heap.size, 7, none⟩ = some (.int .u32 p.src) ∧ Y.cell? ⟨w.heap.size, 8, none⟩ = some (.int .u32 p.dst) ∧ Y.cell? ⟨w.heap.size, 9, none⟩ = some (.slice Ao p.opts.length co) ∧ Y.cell? ⟨w.heap.size, 10, none⟩ = some (.slice Ab p.body.length cb) ∧ Y.cell? ⟨g, 0, none⟩ = some (.int .u8 (64 + (s : Int) / 4)) ∧ Y.cell? ⟨g, 2, none⟩ = some (.int .u8 (g8 (putB p) 2)) ∧ Y.cell? ⟨g, 3, none⟩ = some (.int .u8 (g8 (putB p) 3)) ∧ Y.cell? ⟨g, 8, none⟩ = some (.int .u8 p.ttl) ∧ Y.cell? ⟨g, 9, none⟩ = some (.int .u8 p.proto) ∧ Below w3.heap.size w3 Y)
        (exact K _ (by repeat (with_reducible first | assumption | exact Below.refl _ _ | refine below_drew ?_ | refine below_dn ?_ _)))
        (first
          | (go_at_call 18; refine (rsum_x (some ⟨g, 0, none⟩) s c ((putB p).take s) w3.heap.size w3 _ 65535 HSum.out HL1.out (HB.out.take s) (Nat.le_refl _) j3 j4 (by repeat (with_reducible first | assumption | exact Below.refl _ _ | refine below_drew ?_ | refine below_dn ?_ _))).mono ?_; rintro e w4 ⟨rfl, x4⟩; dsimp only)
          | (go_at_call_of 12 (Value.slice Ao p.opts.length co); refine (rsame_x _ (s - 20) (c - 20) p.opts Ao _ co p.opts w3.heap.size w.heap.size w3 _ true HSo.out HO1.out rfl HBo.out (Nat.le_refl _) HAo.out (Nat.le_of_lt hbl) j1 j5 (by repeat (with_reducible first | assumption | exact Below.refl _ _ | refine below_drew ?_ | refine below_dn ?_ _))).mono ?_; rintro e w5 ⟨rfl, m1, rfl⟩; dsimp only)
          | (go_at_call_of 12 (Value.slice Ab p.body.length cb); refine (rsame_x _ (n - s) (c - s) p.body Ab _ cb p.body w3.heap.size w.heap.size w3 _ true HSb.out HB1.out rfl HBb.out (Nat.le_refl _) HAb.out (Nat.le_of_lt hbl) j2 j6 (by repeat (with_reducible first | assumption | exact Below.refl _ _ | refine below_drew ?_ | refine below_dn ?_ _))).mono ?_; rintro e w5 ⟨rfl, m1, rfl⟩; dsimp only))
      all_goals
        have yF := y3.trans (x4.mono y3.size)
        clear K x4 D1 D2
        go_wp2
        all_goals
          go_ret
          exact ⟨rfl, by repeat (with_reducible first | assumption | refine below_dn ?_ _)⟩
    · have hM' : mayB p = false := by simpa using hM
      clear hM
      go_wp2_with fail
      refine (cputNo p Ao co Ab cb _ hM' (by omega) (by omega)).mono ?_
      rintro e w3 ⟨rfl, hb3⟩
      dsimp only
      have x3 := x2.call hb3
      clear hb3 x2 c0 c1 c2 c3 c4 c5 c6 c7 c8 c9 c10
      go_wp2
      go_ret
      exact ⟨rfl, x3.below⟩
  · have hS' : (decide (p.opts.length ≤ 100) && decide (p.body.length ≤ 3000)) = false := by
      rw [Bool.and_eq_false_iff, decide_eq_false_iff_not, decide_eq_false_iff_not]; omega
    clear hS
    go_wp2_with fail
    refine (rshortF p Ao co Ab cb false hS' _).mono ?_
    rintro e w2 ⟨rfl, hb2⟩
    dsimp only
    have x2 := x1.call hb2
    clear hb2 x1 c0 c1 c2 c3 c4 c5 c6 c7 c8 c9 c10
    go_wp2
    go_ret
    exact ⟨rfl, x2.below⟩
end Go.Proofs.Ytdbidhabpomlgaa
