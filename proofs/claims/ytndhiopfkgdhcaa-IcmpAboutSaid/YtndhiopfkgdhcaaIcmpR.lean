/- Contracts of the document's own answers for package icmp: Put, Same, Error. -/
import Derived.Test.YtndhiopfkgdhcaaIcmpV
import Derived.Test.YtndhiopfkgdhcaaCsumB2
namespace Go.Proofs.Ytndhiopfkgdhcaa
open Go.ChangeShapes Go.WideShapes Go.ChangeAt Go.RowKit
set_option linter.unusedVariables false

theorem rofI (A : Option Addr) (n c : Nat) (l : List UInt8) (B : Nat) (w : World) (k : Int) (hk : 65535 - fo (tot l) = k) (hn : l.length = n) (h : Bs w B A l) (hB : B ≤ w.heap.size) (hl : n ≤ 16777216) (hlc : n ≤ c) :
    Calls Try.prog 34 #[.slice A n c] w fun e w' => e = .returned (.int .u16 k) ∧ Below w.heap.size w w' := by
  subst hn hk
  exact rof A c l w (h.more hB) hl hlc

set_option maxRecDepth 100000 in
set_option maxHeartbeats 4000000 in
theorem rputYesI (m : Ic) (Ab : Option Addr) (cb : Nat) (w : World) (hM : MayI m) (hI : IcIn w w.heap.size m Ab cb) (N : Nat) (hN : N = 8 + m.body.length) :
    Calls Try.prog 10 #[icV m Ab cb] w fun e w' => ∃ g c, e = .returned (.tuple #[.slice (some ⟨g, 0, none⟩) N c, .int .i64 0]) ∧ Own w' w.heap.size g N c (putI m) ∧ Below w.heap.size w w' := by
  have HI := Go.Lib.hid hI
  have HN := Go.Lib.hid hN
  have bcap := hI.bcap
  have blen := hI.blen
  have r0 := hI.r0
  have r1 := hI.r1
  obtain ⟨t0, t1, d0, d1, fit⟩ := hM
  have m0 := icIs.made (w := w) (m := m) (A_body := Ab) (c_body := cb)
  have b0 : Below w.heap.size w (w.alloc (icO m Ab cb)) := (Below.refl _ _).alloc (Nat.le_refl _) _
  have sz : w.heap.size + 1 ≤ (w.alloc (icO m Ab cb)).heap.size := by simp
  obtain ⟨ck, hck⟩ : ∃ ck : Int, chkI m = ck := ⟨_, rfl⟩
  have k0 := chkI_lo m
  have k1 := chkI_hi m
  rw [hck] at k0 k1
  have HK : Hid (65535 - fo (tot ([b8 m.type, b8 m.code] ++ ([b8 (m.rest / 16777216), b8 (m.rest / 65536 % 256), b8 (m.rest / 256 % 256), b8 (m.rest % 256)] ++ m.body))) = ck) := Go.Lib.hid (by rw [tot_skip]; exact hck)
  have HP : Hid (putI m = [b8 m.type, b8 m.code, b8 (ck / 256), b8 (ck % 256)] ++ ([b8 (m.rest / 16777216), b8 (m.rest / 65536 % 256), b8 (m.rest / 256 % 256), b8 (m.rest % 256)] ++ m.body)) := Go.Lib.hid (by unfold putI icB; rw [hck]; rfl)
  clear hI hN hck
  go_enter Try.func10, Try.ntmps10
  go_upto_region 1 with fail
  change (icIs (w.alloc (icO m Ab cb)) _ _ _ _) at m0
  generalize w.alloc (.cells #[.int .i64 m.type, .int .i64 m.code, .int .u32 m.rest, .slice Ab m.body.length cb] 25) = W at *
  obtain ⟨c0, c1, c2, c3⟩ := m0.cells
  have M0 := Go.Lib.hid m0
  have K : ∀ Y, Below (w.heap.size + 1) W Y → Y.cell? ⟨w.heap.size, 0, none⟩ = some (.int .i64 m.type) ∧ Y.cell? ⟨w.heap.size, 1, none⟩ = some (.int .i64 m.code) := fun Y y => by
    obtain ⟨c0, c1, _, _⟩ := (M0.out.keep y (Nat.lt_succ_self _)).cells
    exact ⟨c0, c1⟩
  have s1 : W.heap.size ≠ w.heap.size := by omega
  have s2 : w.heap.size ≠ W.heap.size := by omega
  have s3 : w.heap.size < W.heap.size := by omega
  have u1 := IntWalk.u8_in (m.rest / 16777216) (by omega)
  have u2 := IntWalk.u8_in (m.rest / 65536 % 256) (by omega)
  have u3 := IntWalk.u8_in (m.rest / 256 % 256) (by omega)
  have u4 := IntWalk.u8_in (m.rest % 256) (by omega)
  have ho := own_lit W (w.heap.size + 1) [m.rest / 16777216, m.rest / 65536 % 256, m.rest / 256 % 256, m.rest % 256] (by intro x hx; simp at hx; omega) sz (by simp)
  have hz : w.heap.size + 1 ≤ (W.alloc (.cells #[.int .u8 (m.rest / 16777216), .int .u8 (m.rest / 65536 % 256), .int .u8 (m.rest / 256 % 256), .int .u8 (m.rest % 256)] 5)).heap.size := by simp; omega
  have hj : m.body.length ≤ 1073741824 := by omega
  have l4 : [b8 (m.rest / 16777216), b8 (m.rest / 65536 % 256), b8 (m.rest / 256 % 256), b8 (m.rest % 256)].length ≤ 1073741824 := by simp
  go_upto_region 5 with (at_builtin; refine ap rfl _ _ rfl (w.heap.size + 1) _ [b8 (m.rest / 16777216), b8 (m.rest / 65536 % 256), b8 (m.rest / 256 % 256), b8 (m.rest % 256)] rfl ho.row w.heap.size Ab _ cb m.body rfl rfl HI.out.bnil (HI.out.bs.below (b0.alloc b0.size _)) l4 hj hz ?_; intro v5 w5 hrow5 hb5)
  obtain ⟨g5, c5, rfl, hown5⟩ := hrow5.own (by simp)
  have x5 : Below (w.heap.size + 1) W w5 := ((Below.refl _ _).alloc sz _).trans hb5
  have hl5 : ([b8 (m.rest / 16777216), b8 (m.rest / 65536 % 256), b8 (m.rest / 256 % 256), b8 (m.rest % 256)] ++ m.body).length = 4 + m.body.length := by simp; omega
  rw [hl5] at hown5
  rw [hl5]
  have hT : Hid (∃ T, [b8 (m.rest / 16777216), b8 (m.rest / 65536 % 256), b8 (m.rest / 256 % 256), b8 (m.rest % 256)] ++ m.body = T) := Go.Lib.hid ⟨_, rfl⟩
  clear hrow5 ho hz u1 u2 u3 u4 hl5 l4 hb5 c0 c1 c2 c3
  generalize [b8 (m.rest / 16777216), b8 (m.rest / 65536 % 256), b8 (m.rest / 256 % 256), b8 (m.rest % 256)] ++ m.body = T at *
  clear hT
  obtain ⟨nt, hnt⟩ : ∃ nt : Nat, 4 + m.body.length = nt := ⟨_, rfl⟩
  rw [hnt] at hown5
  rw [hnt]
  have s5 : w.heap.size + 1 ≤ w5.heap.size := Nat.le_trans sz x5.size
  obtain ⟨c0, c1⟩ := K _ x5
  have s51 : w5.heap.size ≠ w.heap.size := by omega
  have s52 : w.heap.size ≠ w5.heap.size := by omega
  have s53 : w.heap.size < w5.heap.size := by omega
  have u1 := IntWalk.u8_in m.type (by omega)
  have u2 := IntWalk.u8_in m.code (by omega)
  have ho := own_lit w5 w5.heap.size [m.type, m.code] (by intro x hx; simp at hx; omega) (Nat.le_refl _) (by simp)
  have hj : nt ≤ 1073741824 := by omega
  have l2 : [b8 m.type, b8 m.code].length ≤ 1073741824 := by simp
  have hz5 : w5.heap.size ≤ (w5.alloc (.cells #[.int .u8 m.type, .int .u8 m.code] 5)).heap.size := by simp
  go_upto_region 6 with (first
    | (at_builtin; refine ap rfl _ _ rfl w5.heap.size _ [b8 m.type, b8 m.code] rfl ho.row w5.heap.size (some ⟨g5, 0, none⟩) nt c5 T rfl hown5.len (fun h => by cases h) (hown5.bs.below ((Below.refl _ _).alloc (Nat.le_refl _) _)) l2 hj hz5 ?_; intro v6 w6 hrow6 hb6; obtain ⟨A6, c6, hv6, hl6, hc6, hn6, hs6⟩ := hrow6.form; subst hv6)
    | (go_at_call 34; refine (rofI A6 _ c6 _ _ _ ck HK.out rfl hs6 (Nat.le_refl _) (by simp [hown5.len]; omega) hl6).mono ?_; rintro e w7 ⟨rfl, hb7⟩; dsimp only))
  have y7 : Below w5.heap.size w5 w7 := (((Below.refl _ _).alloc (Nat.le_refl _) _).trans hb6).trans (hb7.mono (Nat.le_trans hz5 hb6.size))
  have x7 : Below (w.heap.size + 1) W w7 := x5.trans (y7.mono s5)
  have hown7 := hown5.below y7
  clear hown5 hb6 hb7 hrow6 hs6 ho l2 hz5 c0 c1 u1 u2 y7 hl6 hc6 hn6
  have s7 : w.heap.size + 1 ≤ w7.heap.size := Nat.le_trans sz x7.size
  have s71 : w7.heap.size ≠ w.heap.size := by omega
  have s72 : w.heap.size ≠ w7.heap.size := by omega
  have s73 : w.heap.size < w7.heap.size := by omega
  obtain ⟨c0, c1⟩ := K _ x7
  have u1 := IntWalk.u8_in m.type (by omega)
  have u2 := IntWalk.u8_in m.code (by omega)
  have u3 := IntWalk.u8_in (ck / 256) (by omega)
  have u4 := IntWalk.u8_in (ck % 256) (by omega)
  have D1 : IntKind.u16.wrap (ck.tdiv 256) = ck / 256 := by rw [Int.tdiv_eq_ediv_of_nonneg k0]; exact IntWalk.u16_in _ (by omega)
  have ho := own_lit w7 w7.heap.size [m.type, m.code, ck / 256, ck % 256] (by intro x hx; simp at hx; omega) (Nat.le_refl _) (by simp)
  have hz : w7.heap.size ≤ (w7.alloc (.cells #[.int .u8 m.type, .int .u8 m.code, .int .u8 (ck / 256), .int .u8 (ck % 256)] 5)).heap.size := by simp
  have l2 : [b8 m.type, b8 m.code, b8 (ck / 256), b8 (ck % 256)].length ≤ 1073741824 := by simp
  go_wp2_with (at_builtin; refine ap rfl _ _ rfl w7.heap.size _ [b8 m.type, b8 m.code, b8 (ck / 256), b8 (ck % 256)] rfl ho.row w7.heap.size (some ⟨g5, 0, none⟩) nt c5 T rfl hown7.len (fun h => by cases h) (hown7.bs.below ((Below.refl _ _).alloc (Nat.le_refl _) _)) l2 hj hz ?_; intro v8 w8 hrow8 hb8)
  rw [← HP.out] at hrow8
  obtain ⟨g8, c8, rfl, hown8⟩ := hrow8.own (by rw [putI_length]; omega)
  have hlN : (putI m).length = N := by rw [putI_length]; exact HN.out.symm
  rw [hlN] at hown8
  rw [hlN]
  have hF := World.ownsRow.mono hown8 (Nat.le_trans (Nat.le_succ _) s7)
  have xF := b0.trans (((x7.trans ((Below.refl _ _).alloc s7 _)).trans (hb8.mono s7)).mono (Nat.le_succ _))
  clear hown8 hrow8 hlN
  go_ret2
  exact ⟨g8, c8, rfl, hF, xF⟩

set_option maxRecDepth 100000 in
set_option maxHeartbeats 4000000 in
theorem rputNoI (m : Ic) (Ab : Option Addr) (cb : Nat) (w : World) (hM : ¬ MayI m) :
    Calls Try.prog 10 #[icV m Ab cb] w fun e w' => e = .returned (.tuple #[.slice none 0 0, .int .i64 1]) ∧ Below w.heap.size w w' := by
  have b0 : Below w.heap.size w (w.alloc (icO m Ab cb)) := (Below.refl _ _).alloc (Nat.le_refl _) _
  have hx := mayI_not m hM
  clear hM
  rcases hx with g1 | ⟨g1, g2⟩ | ⟨g1, g2, g3⟩ | ⟨g1, g2, g3, g4⟩ | ⟨g1, g2, g3, g4, g5⟩
  all_goals
    go_enter Try.func10, Try.ntmps10
    go_wp2
    go_ret2
    exact ⟨rfl, b0⟩
theorem rputI (m : Ic) (Ab : Option Addr) (cb : Nat) (L : List UInt8) (n : Nat) (r : Int) (hL : PutIL m L n r) (w : World) (hI : IcIn w w.heap.size m Ab cb) :
    Calls Try.prog 10 #[icV m Ab cb] w (PutPost L n r w) := by
  by_cases hm : MayI m
  · obtain ⟨rfl, hn, rfl⟩ := hL.yes hm
    refine (rputYesI m Ab cb w hm hI n hn).mono ?_
    rintro e w' ⟨g, c, rfl, ho, hb⟩
    exact PutPost.of _ c rfl ho.bs hb
  · obtain ⟨rfl, rfl, rfl⟩ := hL.no hm
    refine (rputNoI m Ab cb w hm).mono ?_
    rintro e w' ⟨rfl, hb⟩
    exact PutPost.of _ 0 rfl Bs.nil_ hb

set_option maxRecDepth 100000 in
set_option maxHeartbeats 4000000 in
theorem rsameI (m : Ic) (Ab : Option Addr) (cb : Nat) (v : Ic) (Ab' : Option Addr) (cb' : Nat) (B : Nat) (w : World) (hB : B ≤ w.heap.size) (hI : Bs w B Ab m.body) (hJ : Bs w B Ab' v.body) (l1 : m.body.length ≤ 16777216) (l2 : v.body.length ≤ 16777216) :
    Calls Try.prog 13 #[icV m Ab cb, icV v Ab' cb'] w fun e w' => e = .returned (.bool (sameI m v)) ∧ Below w.heap.size w w' := by
  have H1 := Go.Lib.hid hI
  have H2 := Go.Lib.hid hJ
  clear hI hJ
  unfold sameI
  go_enter Try.func13, Try.ntmps13
  go_wp2_with (go_at_call 11; refine (rsame Ab _ cb m.body Ab' _ cb' v.body B B _ rfl rfl (H1.out.below (by repeat (first | exact Below.refl _ _ | refine Below.alloc ?_ (by first | exact hB | (simp; omega)) _))) (H2.out.below (by repeat (first | exact Below.refl _ _ | refine Below.alloc ?_ (by first | exact hB | (simp; omega)) _))) l1 l2).mono ?_; rintro e w' ⟨rfl, m, rfl⟩; dsimp only)
  all_goals (go_ret; refine ⟨ret_bool ?_, by repeat (first | exact Below.refl _ _ | refine below_dn ?_ _ | refine Below.alloc ?_ (by simp) _)⟩)
  all_goals (simp [*]; done)

set_option maxHeartbeats 1000000 in
theorem rerrI (k : Int) (w : World) (b : Bool) (hb : errK k = b) :
    Calls Try.prog 17 #[.int .i64 k] w fun e w' => e = .returned (.bool b) ∧ w = w' := by
  unfold errK at hb
  subst hb
  go_enter Try.func17, Try.ntmps17
  go_wp2
  all_goals (go_ret; refine ⟨ret_bool ?_, rfl⟩)
  all_goals first | rfl | (simp [*]; done) | (simp [Bool.or_assoc]; done) | trace_state
end Go.Proofs.Ytndhiopfkgdhcaa
