/- The contract of package udp's Parse. -/
import Derived.Test.YthikllbfkagdnaaUdpA7
namespace Go.Proofs.Ythikllbfkagdnaa
open Go.ChangeShapes Go.WideShapes Go.ChangeAt Go.RowKit
set_option linter.unusedVariables false
set_option linter.unusedSimpArgs false

set_option maxRecDepth 100000 in
set_option maxHeartbeats 4000000 in
theorem uparseA (src dst : Int) (A : Option Addr) (n c : Nat) (l : List UInt8) (w : World) (hn : l.length = n) (h : Bs w w.heap.size A l) (hn2 : n ≤ 16777216) (hM : umE l ≠ 0) :
    Calls Try.prog 14 #[.int .u32 src, .int .u32 dst, .slice A n c] w (ParsedU w (prsU src dst l)) := by
  have hb : Bs (Zu w) w.heap.size A l := h.below (Zu.below (Below.refl _ _))
  have HP := Go.Lib.hid (prsU_meas (src := src) (dst := dst) hM)
  have HM : Hid (umH l = 0) := Go.Lib.hid (if_neg hM)
  have t1 : (umE l != 0) = true := by simpa using hM
  clear hM h
  go_enter Try.func14, Try.ntmps14
  go_wp2_with fail
  refine (umeasure A n c l w.heap.size _ hn hb hn2).mono ?_
  rintro e w1 ⟨rfl, m, rfl⟩
  rw [HM.out]
  dsimp only
  have x0 : Below (w.heap.size + 1) (Zu w) ((Zu w).drewN m) := below_dn (Below.refl _ _) m
  generalize umE l = q at *
  obtain ⟨⟨z0, z1, z2, z3⟩, zf⟩ := zu_of x0
  have y0 := Zu.below x0
  clear hb x0
  generalize (Zu w).drewN m = X at *
  go_wp2
  refine bodyPost_ret (v := .tuple #[.agg #[.int .i64 0, .int .i64 0, .bool false, .slice none 0 0], .int .i64 q]) ?_ rfl (parsedU_err HP.out rfl ?_)
  · simp [results, Try.results14, go_sem, z0, z1, z2, z3]
  · exact below_s4 y0 (Nat.le_refl _) _ _ _ _

/-- what Parse says of bytes whose length is right. -/
theorem prsU_read {src dst : Int} {l : List UInt8} (h : umE l = 0) {N : Nat} (hN : (N : Int) = wd l 4) : prsU src dst l = if 0 < wd l 6 ∧ sumT 17 src dst (l.take N) ≠ 65535 then (5, Ud.empty) else (0, ⟨wd l 0, wd l 2, wd l 6 == 0, (l.take N).drop 8⟩) := by
  obtain ⟨m1, m2, m3⟩ := umE_ok h
  have e : (wd l 4).toNat = N := by omega
  unfold prsU
  rw [if_neg (by omega), if_neg (by omega), e]
theorem uparse_fin {w w2 w3 : World} {u : Ud} {Ab : Option Addr} {cb : Nat} (X3 : Below (w.heap.size + 1) (Zu w) w3) (b3 : Below w2.heap.size w2 w3) (hI : UdIn w2 w2.heap.size u Ab cb) (hF : ∀ ad, Ab = some ad → w.heap.size < ad.block) :
    ∀ Y, Below w3.heap.size w3 Y → ∀ u0 u1 u2 u3, GivesUd w (set4 Y w.heap.size u0 u1 u2 u3) u Ab cb := by
  intro Y hY u0 u1 u2 u3
  have h2 : Below w2.heap.size w2 Y := b3.trans (hY.mono b3.size)
  refine ⟨⟨hI.blen, hI.bcap, hI.bnil, ?_⟩, below_s4 (Zu.below (X3.trans (hY.mono (Zu.size X3)))) (Nat.le_refl _) _ _ _ _⟩
  rw [size_s4]
  exact bs_s4 ((hI.bs.below h2).more h2.size) hF _ _ _ _
set_option maxRecDepth 100000 in
set_option maxHeartbeats 8000000 in
theorem uparseB (src dst : Int) (A : Option Addr) (n c : Nat) (l : List UInt8) (w : World) (hs : 0 ≤ src ∧ src ≤ 4294967295) (hd : 0 ≤ dst ∧ dst ≤ 4294967295) (hn : l.length = n) (h : Bs w w.heap.size A l) (hn2 : n ≤ 16777216) (hnc : n ≤ c) (hc63 : c ≤ 9223372036854775807) (hM : umE l = 0) :
    Calls Try.prog 14 #[.int .u32 src, .int .u32 dst, .slice A n c] w (ParsedU w (prsU src dst l)) := by
  obtain ⟨m1, m2, m3⟩ := umE_ok hM
  obtain ⟨ad, rfl, hlt, _⟩ := g8_cells h (by omega)
  obtain ⟨N, hN⟩ : ∃ N : Nat, (N : Int) = wd l 4 := ⟨(wd l 4).toNat, by omega⟩
  have HP := Go.Lib.hid (prsU_read (src := src) (dst := dst) hM hN)
  have HH : Hid (umH l = (N : Int)) := Go.Lib.hid (by unfold umH; rw [if_pos hM, hN])
  have HM := Go.Lib.hid hM
  have HN := Go.Lib.hid hn
  have HB := Go.Lib.hid h
  have n8 : 8 ≤ N := by omega
  have nn : N ≤ n := by omega
  have i1 : (N : Int) ≤ (c : Int) := by omega
  have i2 : (0 : Int) ≤ (N : Int) := by omega
  have i3 : (N : Int) ≤ (n : Int) := by omega
  have LT : Hid ((l.take N).length = N) := Go.Lib.hid (by rw [List.length_take]; omega)
  have q0 := wd_takeU l N 0 (by omega)
  have q2 := wd_takeU l N 2 (by omega)
  have q6 : (wd (l.take N) 6 == 0) = (wd l 6 == 0) := by rw [wd_takeU l N 6 (by omega)]
  have a6 := wd_lo l 6
  obtain ⟨s, hsum⟩ : ∃ s : Int, sumT 17 src dst (l.take N) = s := ⟨_, rfl⟩
  have HS := Go.Lib.hid hsum
  obtain ⟨N8, hN8⟩ : ∃ N8, N - 8 = N8 := ⟨_, rfl⟩
  have hN8' : ((l.take N).drop 8).length = N8 := by rw [List.length_drop, LT.out, hN8]
  rw [hsum] at HP
  generalize wd l 0 = x0 at *
  generalize wd l 2 = x2 at *
  generalize wd l 6 = x6 at *
  obtain ⟨vn, hvn⟩ : ∃ vn : Bool, (x6 == 0) = vn := ⟨_, rfl⟩
  rw [hvn] at q6 HP
  have Q0 := Go.Lib.hid q0
  have Q2 := Go.Lib.hid q2
  have Q6 := Go.Lib.hid q6
  have HN8 := Go.Lib.hid hN8
  have HN8' := Go.Lib.hid hN8'
  have HVN : Hid (vn = true ↔ x6 = 0) := Go.Lib.hid (by rw [← hvn]; simp)
  have t1 : (umE l != 0) = false := by simpa using hM
  clear hM h hn m1 m2 m3 hN hsum q0 q2 q6 hvn hN8 hN8' t1
  have hb : Bs (Zu w) w.heap.size (some ad) l := HB.out.below (Zu.below (Below.refl _ _))
  go_enter Try.func14, Try.ntmps14
  go_wp2_with fail
  refine (umeasure (some ad) n c l w.heap.size _ HN.out hb hn2).mono ?_
  rw [HM.out, HH.out]
  rintro e w1 ⟨rfl, m, rfl⟩
  dsimp only
  have X1 : Below (w.heap.size + 1) (Zu w) ((Zu w).drewN m) := below_dn (Below.refl _ _) m
  clear hb
  generalize (Zu w).drewN m = w1 at *
  go_wp2_with fail
  refine (uread_x (some ad) N c (l.take N) w1 LT.out (((HB.out.below (Zu.below X1)).take N).more (Zu.below X1).size) (by omega) n8 (by omega) hc63 x0 x2 vn N8 Q0.out Q2.out Q6.out HN8.out).mono ?_
  rintro e w2 ⟨Ab, cb, rfl, hg⟩
  dsimp only
  go_upto_region 5 with fail
  have hg2 := hg.below
  have m3 : (w2.alloc (.cells #[.int .i64 x0, .int .i64 x2, .bool vn, .slice Ab N8 cb] 25)).cell? ⟨w2.heap.size, 0, none⟩ = some (.int .i64 x0) ∧ (w2.alloc (.cells #[.int .i64 x0, .int .i64 x2, .bool vn, .slice Ab N8 cb] 25)).cell? ⟨w2.heap.size, 1, none⟩ = some (.int .i64 x2) ∧ (w2.alloc (.cells #[.int .i64 x0, .int .i64 x2, .bool vn, .slice Ab N8 cb] 25)).cell? ⟨w2.heap.size, 2, none⟩ = some (.bool vn) ∧ (w2.alloc (.cells #[.int .i64 x0, .int .i64 x2, .bool vn, .slice Ab N8 cb] 25)).cell? ⟨w2.heap.size, 3, none⟩ = some (.slice Ab N8 cb) := by
    refine ⟨?_, ?_, ?_, ?_⟩ <;> simp [go_sem]
  have b3 : Below w2.heap.size w2 (w2.alloc (.cells #[.int .i64 x0, .int .i64 x2, .bool vn, .slice Ab N8 cb] 25)) := (Below.refl _ _).alloc (Nat.le_refl _) _
  have s3 : w2.heap.size < (w2.alloc (.cells #[.int .i64 x0, .int .i64 x2, .bool vn, .slice Ab N8 cb] 25)).heap.size := by simp
  have X2 : Below (w.heap.size + 1) (Zu w) w2 := X1.trans (hg2.mono (Zu.size X1))
  have X3 := X2.trans (b3.mono (Zu.size X2))
  have HFIN := Go.Lib.hid (uparse_fin X3 b3 hg.is (fun ad e => Nat.lt_of_lt_of_le (Nat.lt_succ_self _) (Nat.le_trans (Zu.size X1) (hg.fresh ad e))))
  have hgw : w.heap.size < w2.heap.size := Zu.size X2
  clear hg hg2 X1 X2 b3
  generalize w2.alloc (.cells #[.int .i64 x0, .int .i64 x2, .bool vn, .slice Ab N8 cb] 25) = w3 at *
  generalize w2.heap.size = g at *
  obtain ⟨c0, c1, c2, c3⟩ := m3
  cases vn with
  | true =>
    have hx6 : x6 = 0 := HVN.out.1 rfl
    have HPF : Hid (prsU src dst l = (0, ⟨x0, x2, true, (l.take N).drop 8⟩)) := Go.Lib.hid (by rw [HP.out, if_neg (by omega)])
    obtain ⟨⟨z0, z1, z2, z3⟩, zf⟩ := zu_of X3
    go_wp2
    refine bodyPost_ret (v := .tuple #[.agg #[.int .i64 x0, .int .i64 x2, .bool true, .slice Ab N8 cb], .int .i64 0]) ?_ rfl (parsedU_ok HPF.out (by rw [udV]; dsimp only; rw [HN8'.out]) (HFIN.out _ (Below.refl _ _) _ _ _ _))
    simp [results, Try.results14, go_sem, z0, z1, z2, z3]
  | false =>
    have hx6 : x6 ≠ 0 := fun h => by have := HVN.out.2 h; cases this
    go_wp2_with fail
    refine (usum src dst (some ad) N c (l.take N) w.heap.size _ s HS.out hs hd LT.out ((HB.out.below (Zu.below X3)).take N) (by omega) (by omega) hc63).mono ?_
    rintro e w4 ⟨rfl, m4, rfl⟩
    dsimp only
    have y4 : Below w3.heap.size w3 (w3.drewN m4) := below_dn (Below.refl _ _) m4
    have X4 := X3.trans (y4.mono (Zu.size X3))
    obtain ⟨⟨z0, z1, z2, z3⟩, zf⟩ := zu_of X4
    have d0 := (y4.cell (p := ⟨g, 0, none⟩) s3).trans c0
    have d1 := (y4.cell (p := ⟨g, 1, none⟩) s3).trans c1
    have d2 := (y4.cell (p := ⟨g, 2, none⟩) s3).trans c2
    have d3 := (y4.cell (p := ⟨g, 3, none⟩) s3).trans c3
    clear c0 c1 c2 c3 X3
    generalize w3.drewN m4 = w4 at *
    by_cases h7 : s = 65535
    · have t7 : (s != 65535) = false := by rw [h7]; rfl
      have HPF : Hid (prsU src dst l = (0, ⟨x0, x2, false, (l.take N).drop 8⟩)) := Go.Lib.hid (by rw [HP.out, if_neg (by omega)])
      clear h7
      go_wp2
      refine bodyPost_ret (v := .tuple #[.agg #[.int .i64 x0, .int .i64 x2, .bool false, .slice Ab N8 cb], .int .i64 0]) ?_ rfl (parsedU_ok HPF.out (by rw [udV]; dsimp only; rw [HN8'.out]) (HFIN.out _ y4 _ _ _ _))
      simp [results, Try.results14, go_sem, z0, z1, z2, z3]
    · have t7 : (s != 65535) = true := by simpa using h7
      have HPF : Hid (prsU src dst l = (5, Ud.empty)) := Go.Lib.hid (by rw [HP.out, if_pos ⟨by omega, h7⟩])
      clear h7
      have yF := Zu.below X4
      go_wp2
      refine bodyPost_ret (v := .tuple #[.agg #[.int .i64 0, .int .i64 0, .bool false, .slice none 0 0], .int .i64 5]) ?_ rfl (parsedU_err HPF.out rfl ?_)
      · simp [results, Try.results14, go_sem, z0, z1, z2, z3]
      · exact below_s4 yF (Nat.le_refl _) _ _ _ _
theorem uparse (src dst : Int) (A : Option Addr) (n c : Nat) (l : List UInt8) (w : World) (hs : 0 ≤ src ∧ src ≤ 4294967295) (hd : 0 ≤ dst ∧ dst ≤ 4294967295) (hn : l.length = n) (h : Bs w w.heap.size A l) (hn2 : n ≤ 16777216) (hnc : n ≤ c) (hc63 : c ≤ 9223372036854775807) :
    Calls Try.prog 14 #[.int .u32 src, .int .u32 dst, .slice A n c] w (ParsedU w (prsU src dst l)) := by
  by_cases hM : umE l = 0
  · exact uparseB src dst A n c l w hs hd hn h hn2 hnc hc63 hM
  · exact uparseA src dst A n c l w hn h hn2 hM
end Go.Proofs.Ythikllbfkagdnaa
