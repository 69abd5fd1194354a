/- Lemmas, several texts in one. -/
import Derived.Test.YtmgkkgpdnopeaaaQ16
import Derived.Test.YtmgkkgpdnopeaaaQ15
import Derived.Test.YtmgkkgpdnopeaaaQ01
import Derived.Test.YtmgkkgpdnopeaaaQ03
import Derived.Test.YtmgkkgpdnopeaaaQ11
import Derived.Deep.RegionHeld3
import Derived.Deep.DeepCutAuto
import Derived.Laws.BitsAllLaws
/- The contract of package udp's Parse. -/
namespace Go.Proofs.Ytmgkkgpdnopeaaa
open Go.ChangeShapes Go.WideShapes Go.ChangeAt Go.RowKit
set_option linter.unusedVariables false
set_option linter.unusedSimpArgs false

set_option maxRecDepth 100000 in
set_option maxHeartbeats 4000000 in
theorem uparseA (src dst : Int) (A : Option Addr) (n c : Nat) (l : List UInt8) (w : World) (hn : l.length = n) (h : Bs w w.heap.size A l) (hn2 : n ≤ 16777216) (hM : umE l ≠ 0) :
    Calls Try.prog 44 #[.int .u32 src, .int .u32 dst, .slice A n c] w (ParsedU w (prsU src dst l)) := by
  have hb : Bs (Zu w) w.heap.size A l := h.below (Zu.below (Below.refl _ _))
  have HP := Go.Lib.hid (prsU_meas (src := src) (dst := dst) hM)
  have HM : Hid (umH l = 0) := Go.Lib.hid (if_neg hM)
  have t1 : (umE l != 0) = true := by simpa using hM
  clear hM h
  go_enter Try.func44, Try.ntmps44
  go_wp2_with fail
  refine (umeasure A n c l w.heap.size _ hn hb hn2).mono ?_
  rintro e w1 ⟨rfl, m, rfl⟩
  rw [HM.out]
  dsimp only
  have x0 : Below (w.heap.size + 1) (Zu w) ((Zu w).drewN m) := below_dn (Below.refl _ _) m
  generalize umE l = q at *
  obtain ⟨⟨z0, z1, z2, z3⟩, zf⟩ := zu_of x0
  have y0 := Zu.below x0
  clear hb x0
  generalize (Zu w).drewN m = X at *
  go_wp2
  refine bodyPost_ret (v := .tuple #[.agg #[.int .i64 0, .int .i64 0, .bool false, .slice none 0 0], .int .i64 q]) ?_ rfl (parsedU_err HP.out rfl ?_)
  · simp [results, Try.results44, go_sem, z0, z1, z2, z3]
  · exact below_s4U y0 (Nat.le_refl _) _ _ _ _

/-- what Parse says of bytes whose length is right. -/
theorem prsU_read {src dst : Int} {l : List UInt8} (h : umE l = 0) {N : Nat} (hN : (N : Int) = wd l 4) : prsU src dst l = if 0 < wd l 6 ∧ sumT 17 src dst (l.take N) ≠ 65535 then (5, Ud.empty) else (0, ⟨wd l 0, wd l 2, wd l 6 == 0, (l.take N).drop 8⟩) := by
  obtain ⟨m1, m2, m3⟩ := umE_ok h
  have e : (wd l 4).toNat = N := by omega
  unfold prsU
  rw [if_neg (by omega), if_neg (by omega), e]
theorem uparse_fin {w w2 w3 : World} {u : Ud} {Ab : Option Addr} {cb : Nat} (X3 : Below (w.heap.size + 1) (Zu w) w3) (b3 : Below w2.heap.size w2 w3) (hI : UdIn w2 w2.heap.size u Ab cb) (hF : ∀ ad, Ab = some ad → w.heap.size < ad.block) :
    ∀ Y, Below w3.heap.size w3 Y → ∀ u0 u1 u2 u3, GivesUd w (set4U Y w.heap.size u0 u1 u2 u3) u Ab cb := by
  intro Y hY u0 u1 u2 u3
  have h2 : Below w2.heap.size w2 Y := b3.trans (hY.mono b3.size)
  refine ⟨⟨hI.blen, hI.bcap, hI.bnil, ?_⟩, below_s4U (Zu.below (X3.trans (hY.mono (Zu.size X3)))) (Nat.le_refl _) _ _ _ _⟩
  rw [size_s4U]
  exact bs_s4U ((hI.bs.below h2).more h2.size) hF _ _ _ _
set_option maxRecDepth 100000 in
set_option maxHeartbeats 8000000 in
theorem uparseB (src dst : Int) (A : Option Addr) (n c : Nat) (l : List UInt8) (w : World) (hs : 0 ≤ src ∧ src ≤ 4294967295) (hd : 0 ≤ dst ∧ dst ≤ 4294967295) (hn : l.length = n) (h : Bs w w.heap.size A l) (hn2 : n ≤ 16777216) (hnc : n ≤ c) (hc63 : c ≤ 9223372036854775807) (hM : umE l = 0) :
    Calls Try.prog 44 #[.int .u32 src, .int .u32 dst, .slice A n c] w (ParsedU w (prsU src dst l)) := by
  obtain ⟨m1, m2, m3⟩ := umE_ok hM
  obtain ⟨ad, rfl, hlt, _⟩ := g8_cells h (by omega)
  obtain ⟨N, hN⟩ : ∃ N : Nat, (N : Int) = wd l 4 := ⟨(wd l 4).toNat, by omega⟩
  have HP := Go.Lib.hid (prsU_read (src := src) (dst := dst) hM hN)
  have HH : Hid (umH l = (N : Int)) := Go.Lib.hid (by unfold umH; rw [if_pos hM, hN])
  have HM := Go.Lib.hid hM
  have HN := Go.Lib.hid hn
  have HB := Go.Lib.hid h
  have n8 : 8 ≤ N := by omega
  have nn : N ≤ n := by omega
  have i1 : (N : Int) ≤ (c : Int) := by omega
  have i2 : (0 : Int) ≤ (N : Int) := by omega
  have i3 : (N : Int) ≤ (n : Int) := by omega
  have LT : Hid ((l.take N).length = N) := Go.Lib.hid (by rw [List.length_take]; omega)
  have q0 := wd_takeU l N 0 (by omega)
  have q2 := wd_takeU l N 2 (by omega)
  have q6 : (wd (l.take N) 6 == 0) = (wd l 6 == 0) := by rw [wd_takeU l N 6 (by omega)]
  have a6 := wd_lo l 6
  obtain ⟨s, hsum⟩ : ∃ s : Int, sumT 17 src dst (l.take N) = s := ⟨_, rfl⟩
  have HS := Go.Lib.hid hsum
  obtain ⟨N8, hN8⟩ : ∃ N8, N - 8 = N8 := ⟨_, rfl⟩
  have hN8' : ((l.take N).drop 8).length = N8 := by rw [List.length_drop, LT.out, hN8]
  rw [hsum] at HP
  generalize wd l 0 = x0 at *
  generalize wd l 2 = x2 at *
  generalize wd l 6 = x6 at *
  obtain ⟨vn, hvn⟩ : ∃ vn : Bool, (x6 == 0) = vn := ⟨_, rfl⟩
  rw [hvn] at q6 HP
  have Q0 := Go.Lib.hid q0
  have Q2 := Go.Lib.hid q2
  have Q6 := Go.Lib.hid q6
  have HN8 := Go.Lib.hid hN8
  have HN8' := Go.Lib.hid hN8'
  have HVN : Hid (vn = true ↔ x6 = 0) := Go.Lib.hid (by rw [← hvn]; simp)
  have t1 : (umE l != 0) = false := by simpa using hM
  clear hM h hn m1 m2 m3 hN hsum q0 q2 q6 hvn hN8 hN8' t1
  have hb : Bs (Zu w) w.heap.size (some ad) l := HB.out.below (Zu.below (Below.refl _ _))
  go_enter Try.func44, Try.ntmps44
  go_wp2_with fail
  refine (umeasure (some ad) n c l w.heap.size _ HN.out hb hn2).mono ?_
  rw [HM.out, HH.out]
  rintro e w1 ⟨rfl, m, rfl⟩
  dsimp only
  have X1 : Below (w.heap.size + 1) (Zu w) ((Zu w).drewN m) := below_dn (Below.refl _ _) m
  clear hb
  generalize (Zu w).drewN m = w1 at *
  go_wp2_with fail
  refine (uread_x (some ad) N c (l.take N) w1 LT.out (((HB.out.below (Zu.below X1)).take N).more (Zu.below X1).size) (by omega) n8 (by omega) hc63 x0 x2 vn N8 Q0.out Q2.out Q6.out HN8.out).mono ?_
  rintro e w2 ⟨Ab, cb, rfl, hg⟩
  dsimp only
  go_upto_region 5 with fail
  have hg2 := hg.below
  have m3 : (w2.alloc (.cells #[.int .i64 x0, .int .i64 x2, .bool vn, .slice Ab N8 cb] 50)).cell? ⟨w2.heap.size, 0, none⟩ = some (.int .i64 x0) ∧ (w2.alloc (.cells #[.int .i64 x0, .int .i64 x2, .bool vn, .slice Ab N8 cb] 50)).cell? ⟨w2.heap.size, 1, none⟩ = some (.int .i64 x2) ∧ (w2.alloc (.cells #[.int .i64 x0, .int .i64 x2, .bool vn, .slice Ab N8 cb] 50)).cell? ⟨w2.heap.size, 2, none⟩ = some (.bool vn) ∧ (w2.alloc (.cells #[.int .i64 x0, .int .i64 x2, .bool vn, .slice Ab N8 cb] 50)).cell? ⟨w2.heap.size, 3, none⟩ = some (.slice Ab N8 cb) := by
    refine ⟨?_, ?_, ?_, ?_⟩ <;> simp [go_sem]
  have b3 : Below w2.heap.size w2 (w2.alloc (.cells #[.int .i64 x0, .int .i64 x2, .bool vn, .slice Ab N8 cb] 50)) := (Below.refl _ _).alloc (Nat.le_refl _) _
  have s3 : w2.heap.size < (w2.alloc (.cells #[.int .i64 x0, .int .i64 x2, .bool vn, .slice Ab N8 cb] 50)).heap.size := by simp
  have X2 : Below (w.heap.size + 1) (Zu w) w2 := X1.trans (hg2.mono (Zu.size X1))
  have X3 := X2.trans (b3.mono (Zu.size X2))
  have HFIN := Go.Lib.hid (uparse_fin X3 b3 hg.is (fun ad e => Nat.lt_of_lt_of_le (Nat.lt_succ_self _) (Nat.le_trans (Zu.size X1) (hg.fresh ad e))))
  have hgw : w.heap.size < w2.heap.size := Zu.size X2
  clear hg hg2 X1 X2 b3
  generalize w2.alloc (.cells #[.int .i64 x0, .int .i64 x2, .bool vn, .slice Ab N8 cb] 50) = w3 at *
  generalize w2.heap.size = g at *
  obtain ⟨c0, c1, c2, c3⟩ := m3
  cases vn with
  | true =>
    have hx6 : x6 = 0 := HVN.out.1 rfl
    have HPF : Hid (prsU src dst l = (0, ⟨x0, x2, true, (l.take N).drop 8⟩)) := Go.Lib.hid (by rw [HP.out, if_neg (by omega)])
    obtain ⟨⟨z0, z1, z2, z3⟩, zf⟩ := zu_of X3
    go_wp2
    refine bodyPost_ret (v := .tuple #[.agg #[.int .i64 x0, .int .i64 x2, .bool true, .slice Ab N8 cb], .int .i64 0]) ?_ rfl (parsedU_ok HPF.out (by rw [udV]; dsimp only; rw [HN8'.out]) (HFIN.out _ (Below.refl _ _) _ _ _ _))
    simp [results, Try.results44, go_sem, z0, z1, z2, z3]
  | false =>
    have hx6 : x6 ≠ 0 := fun h => by have := HVN.out.2 h; cases this
    go_wp2_with fail
    refine (usum src dst (some ad) N c (l.take N) w.heap.size _ s HS.out hs hd LT.out ((HB.out.below (Zu.below X3)).take N) (by omega) (by omega) hc63).mono ?_
    rintro e w4 ⟨rfl, m4, rfl⟩
    dsimp only
    have y4 : Below w3.heap.size w3 (w3.drewN m4) := below_dn (Below.refl _ _) m4
    have X4 := X3.trans (y4.mono (Zu.size X3))
    obtain ⟨⟨z0, z1, z2, z3⟩, zf⟩ := zu_of X4
    have d0 := (y4.cell (p := ⟨g, 0, none⟩) s3).trans c0
    have d1 := (y4.cell (p := ⟨g, 1, none⟩) s3).trans c1
    have d2 := (y4.cell (p := ⟨g, 2, none⟩) s3).trans c2
    have d3 := (y4.cell (p := ⟨g, 3, none⟩) s3).trans c3
    clear c0 c1 c2 c3 X3
    generalize w3.drewN m4 = w4 at *
    by_cases h7 : s = 65535
    · have t7 : (s != 65535) = false := by rw [h7]; rfl
      have HPF : Hid (prsU src dst l = (0, ⟨x0, x2, false, (l.take N).drop 8⟩)) := Go.Lib.hid (by rw [HP.out, if_neg (by omega)])
      clear h7
      go_wp2
      refine bodyPost_ret (v := .tuple #[.agg #[.int .i64 x0, .int .i64 x2, .bool false, .slice Ab N8 cb], .int .i64 0]) ?_ rfl (parsedU_ok HPF.out (by rw [udV]; dsimp only; rw [HN8'.out]) (HFIN.out _ y4 _ _ _ _))
      simp [results, Try.results44, go_sem, z0, z1, z2, z3]
    · have t7 : (s != 65535) = true := by simpa using h7
      have HPF : Hid (prsU src dst l = (5, Ud.empty)) := Go.Lib.hid (by rw [HP.out, if_pos ⟨by omega, h7⟩])
      clear h7
      have yF := Zu.below X4
      go_wp2
      refine bodyPost_ret (v := .tuple #[.agg #[.int .i64 0, .int .i64 0, .bool false, .slice none 0 0], .int .i64 5]) ?_ rfl (parsedU_err HPF.out rfl ?_)
      · simp [results, Try.results44, go_sem, z0, z1, z2, z3]
      · exact below_s4U yF (Nat.le_refl _) _ _ _ _
theorem uparse (src dst : Int) (A : Option Addr) (n c : Nat) (l : List UInt8) (w : World) (hs : 0 ≤ src ∧ src ≤ 4294967295) (hd : 0 ≤ dst ∧ dst ≤ 4294967295) (hn : l.length = n) (h : Bs w w.heap.size A l) (hn2 : n ≤ 16777216) (hnc : n ≤ c) (hc63 : c ≤ 9223372036854775807) :
    Calls Try.prog 44 #[.int .u32 src, .int .u32 dst, .slice A n c] w (ParsedU w (prsU src dst l)) := by
  by_cases hM : umE l = 0
  · exact uparseB src dst A n c l w hs hd hn h hn2 hnc hc63 hM
  · exact uparseA src dst A n c l w hn h hn2 hM
end Go.Proofs.Ytmgkkgpdnopeaaa

/- Contract of package ip's Piece. -/
namespace Go.Proofs.Ytmgkkgpdnopeaaa
open Go.ChangeShapes Go.WideShapes Go.ChangeAt Go.RowKit
set_option linter.unusedVariables false

set_option maxHeartbeats 400000 in
theorem cpiece (p : Pk) (Ao : Option Addr) (co : Nat) (Ab : Option Addr) (cb : Nat) (w : World) :
    Calls Try.prog 22 #[pkV p Ao co Ab cb] w fun e w' => e = .returned (.bool (p.mf || (p.off != 0))) ∧ Below w.heap.size w w' := by
  go_enter Try.func22, Try.ntmps22
  go_wp2
  all_goals (go_ret; refine ⟨ret_bool ?_, (Below.refl _ _).alloc (Nat.le_refl _) _⟩)
  all_goals (simp [*]; done)
end Go.Proofs.Ytmgkkgpdnopeaaa

/- Contracts of package tuple: the name of a message, the ports of a packet. -/
namespace Go.Proofs.Ytmgkkgpdnopeaaa
open Go.ChangeShapes Go.WideShapes Go.ChangeAt Go.RowKit
set_option linter.unusedVariables false
set_option linter.unusedSimpArgs false

theorem asks_or (k : Int) : asksT k = (askK k || ansK k) := by
  unfold asksT askK ansK
  cases (k == 0) <;> cases (k == 8) <;> cases (k == 13) <;> cases (k == 14) <;> rfl
/-- the name that stands in bytes, or the error. -/
def nmP (l : List UInt8) : Int × Int :=
  if (prsI l).1 = 0 then (if asksT (prsI l).2.type = true then ((prsI l).2.rest / 65536, 0) else (0, 9)) else (0, (prsI l).1)
abbrev ic9L (u : Ic) (A : Option Addr) (c : Nat) : List Value := [.int .i64 u.type, .int .i64 u.code, .int .u32 u.rest, .slice A u.body.length c]
theorem info_ic9 : (Try.prog.info? 43).map (·.size) = some 4 := by kernel_rfl
set_option maxRecDepth 100000 in
set_option maxHeartbeats 4000000 in
theorem cnameIn (A : Option Addr) (n c : Nat) (l : List UInt8) (w : World) (hn : l.length = n) (h : Bs w w.heap.size A l) (hn2 : n ≤ 16777216) (hnc : n ≤ c) (hc2 : c ≤ 9223372036854775807) (q1 q2 : Int) (hq : nmP l = (q1, q2)) :
    Calls Try.prog 45 #[.slice A n c] w fun e w' => e = .returned (.tuple #[.int .i64 q1, .int .i64 q2]) ∧ Below w.heap.size w w' := by
  have HQ := Go.Lib.hid hq
  obtain ⟨v, hv⟩ : ∃ v, prsI l = v := ⟨_, rfl⟩
  have HV := Go.Lib.hid hv
  clear hv hq
  go_enter Try.func45, Try.ntmps45
  go_upto_region 2 with (go_at_call 73; refine (iparse A n c l w hn h hn2 hnc hc2).mono ?_; rw [HV.out]; rintro e w3 ⟨A4, c4, rfl, hg⟩; have y3 := hg.below; have hr0 := hg.is.r0; have hr1 := hg.is.r1; clear hg; dsimp only)
  have B6 := Go.Lib.hid (Bxo.made w3 43 (ic9L v.2 A4 c4))
  have x4 : Below w.heap.size w (w3.alloc (.cells #[.int .i64 v.2.type, .int .i64 v.2.code, .int .u32 v.2.rest, .slice A4 v.2.body.length c4] 43)) := below_alloc y3 y3.size _
  clear y3 h hn hn2 hnc hc2
  obtain ⟨f, u⟩ := v
  dsimp only at *
  generalize w3.alloc (.cells #[.int .i64 u.type, .int .i64 u.code, .int .u32 u.rest, .slice A4 u.body.length c4] 43) = W4 at *
  generalize w3.heap.size = g6 at *
  by_cases hf : f = 0
  · subst hf
    obtain ⟨a, ha⟩ : ∃ a, askK u.type = a := ⟨_, rfl⟩
    obtain ⟨b, hb⟩ : ∃ b, ansK u.type = b := ⟨_, rfl⟩
    have HA := Go.Lib.hid ha
    have HB := Go.Lib.hid hb
    have HO : Hid (asksT u.type = (a || b)) := Go.Lib.hid (by rw [asks_or, ha, hb])
    clear ha hb
    have HE : Hid ((if (a || b) = true then (u.rest / 65536, (0 : Int)) else (0, 9)) = (q1, q2)) := Go.Lib.hid (by rw [← HQ.out]; unfold nmP; rw [HV.out]; dsimp only; rw [if_pos rfl, HO.out])
    cases a
    · cases b
      · have h1 : q1 = 0 := by have := HE.out; simp at this; exact this.1.symm
        have h2 : q2 = 9 := by have := HE.out; simp at this; exact this.2.symm
        subst h1 h2
        go_wp2_with (first
          | (refine wpList_load_box rfl 43 _ rfl g6 rfl (ic9L u A4 c4) _ B6.out Try.underlying43 rfl info_ic9 ?_)
          | (go_at_call 74; refine (iasks u A4 c4 _ false HA.out).mono ?_; rintro e wa ⟨rfl, ya⟩; have B6 := Go.Lib.hid (B6.out.keep ya B6.out.lt); have xa := x4.trans (ya.mono x4.size); dsimp only)
          | (go_at_call 75; refine (ianswers u A4 c4 _ false HB.out).mono ?_; rintro e wb ⟨rfl, yb⟩; have B6 := Go.Lib.hid (B6.out.keep yb B6.out.lt); have xb := xa.trans (yb.mono xa.size); dsimp only))
        go_ret2
        exact ⟨rfl, xb⟩
      · have h1 : q1 = u.rest / 65536 := by have := HE.out; simp at this; exact this.1.symm
        have h2 : q2 = 0 := by have := HE.out; simp at this; exact this.2.symm
        subst h1 h2
        have HN : Hid (nameI u = u.rest / 65536) := Go.Lib.hid (by unfold nameI; rw [HA.out, HB.out]; rfl)
        go_wp2_with (first
          | (refine wpList_load_box rfl 43 _ rfl g6 rfl (ic9L u A4 c4) _ B6.out Try.underlying43 rfl info_ic9 ?_)
          | (go_at_call 74; refine (iasks u A4 c4 _ false HA.out).mono ?_; rintro e wa ⟨rfl, ya⟩; have B6 := Go.Lib.hid (B6.out.keep ya B6.out.lt); have xa := x4.trans (ya.mono x4.size); dsimp only)
          | (go_at_call 75; refine (ianswers u A4 c4 _ true HB.out).mono ?_; rintro e wb ⟨rfl, yb⟩; have B6 := Go.Lib.hid (B6.out.keep yb B6.out.lt); have xb := xa.trans (yb.mono xa.size); dsimp only)
          | (go_at_call 76; refine (iname u A4 c4 _ _ HN.out hr0 hr1).mono ?_; rintro e wc ⟨rfl, yc⟩; have xc := xb.trans (yc.mono xb.size); dsimp only))
        go_ret2
        exact ⟨rfl, xc⟩
    · have h1 : q1 = u.rest / 65536 := by have := HE.out; simp at this; exact this.1.symm
      have h2 : q2 = 0 := by have := HE.out; simp at this; exact this.2.symm
      subst h1 h2
      have HN : Hid (nameI u = u.rest / 65536) := Go.Lib.hid (by unfold nameI; rw [HA.out]; rfl)
      go_wp2_with (first
        | (refine wpList_load_box rfl 43 _ rfl g6 rfl (ic9L u A4 c4) _ B6.out Try.underlying43 rfl info_ic9 ?_)
        | (go_at_call 74; refine (iasks u A4 c4 _ true HA.out).mono ?_; rintro e wa ⟨rfl, ya⟩; have B6 := Go.Lib.hid (B6.out.keep ya B6.out.lt); have xa := x4.trans (ya.mono x4.size); dsimp only)
        | (go_at_call 76; refine (iname u A4 c4 _ _ HN.out hr0 hr1).mono ?_; rintro e wc ⟨rfl, yc⟩; have xc := xa.trans (yc.mono xa.size); dsimp only))
      go_ret2
      exact ⟨rfl, xc⟩
  · have HE : Hid (((0 : Int), f) = (q1, q2)) := Go.Lib.hid (by rw [← HQ.out]; unfold nmP; rw [HV.out]; dsimp only; rw [if_neg hf])
    have h1 : q1 = 0 := by have := HE.out; simp at this; exact this.1.symm
    have h2 : q2 = f := by have := HE.out; simp at this; exact this.2.symm
    subst h1 h2
    have tf : (q2 != 0) = true := by simpa using hf
    go_wp2
    go_ret2
    exact ⟨rfl, x4⟩
end Go.Proofs.Ytmgkkgpdnopeaaa

/- Contracts of package tuple: the ports of a packet. -/
namespace Go.Proofs.Ytmgkkgpdnopeaaa
open Go.ChangeShapes Go.WideShapes Go.ChangeAt Go.RowKit
set_option linter.unusedVariables false
set_option linter.unusedSimpArgs false

/-- the ports that a packet's body says, or the error. -/
def ptP (p : Pk) : Int × Int × Int :=
  if p.proto = 6 then ((prsT p.src p.dst p.body).2.sport, (prsT p.src p.dst p.body).2.dport, (prsT p.src p.dst p.body).1)
  else if p.proto = 17 then ((prsU p.src p.dst p.body).2.sport, (prsU p.src p.dst p.body).2.dport, (prsU p.src p.dst p.body).1)
  else if p.proto = 1 then ((nmP p.body).1, (nmP p.body).1, (nmP p.body).2)
  else (0, 0, 9)
theorem of_ports (p : Pk) : ofP p = if p.mf = true ∨ p.off ≠ 0 then (tp0, 7) else if (ptP p).2.2 = 0 then (⟨p.proto, p.src, (ptP p).1, p.dst, (ptP p).2.1⟩, 0) else (tp0, (ptP p).2.2) := by
  unfold ofP
  by_cases h0 : p.mf = true ∨ p.off ≠ 0
  · rw [if_pos h0, if_pos h0]
  rw [if_neg h0, if_neg h0]
  unfold ptP
  by_cases h6 : p.proto = 6
  · simp only [if_pos h6]
  simp only [if_neg h6]
  by_cases h17 : p.proto = 17
  · simp only [if_pos h17]
  simp only [if_neg h17]
  by_cases h1 : p.proto = 1
  · simp only [if_pos h1]
    unfold nmP
    by_cases hf : (prsI p.body).1 = 0
    · simp only [if_pos hf]
      by_cases ha : asksT (prsI p.body).2.type = true
      · simp only [if_pos ha, if_true]
      · simp only [if_neg ha]; rfl
    · simp only [if_neg hf]
  · simp only [if_neg h1]; rfl
set_option maxRecDepth 100000 in
set_option maxHeartbeats 8000000 in
theorem cports (p : Pk) (Ao : Option Addr) (co : Nat) (Ab : Option Addr) (cb : Nat) (w : World) (hp : PkIn w p Ao co Ab cb) (hb : p.body.length ≤ 16777216) (a b e : Int) (hq : ptP p = (a, b, e)) :
    Calls Try.prog 23 #[pkV p Ao co Ab cb] w fun x w' => x = .returned (.tuple #[.int .i64 a, .int .i64 b, .int .i64 e]) ∧ Below w.heap.size w w' := by
  have HQ := Go.Lib.hid hq
  obtain ⟨s0, s1, d0, d1⟩ := hp.rng
  have HBS := Go.Lib.hid hp.bbs
  have hbl := hp.blen
  have hbc := hp.bcap
  have hbn := hp.bnil
  have y0 : Below w.heap.size w (w.alloc (oPk p Ao co Ab cb)) := below_alloc (Below.refl _ _) (Nat.le_refl _) _
  have h1 := Bxo.made w 25 (pkL p Ao co Ab cb)
  clear hq hp
  go_enter Try.func23, Try.ntmps23
  go_upto_region 1 with fail
  generalize (w.alloc (oPk p Ao co Ab cb)) = W at *
  have c6 := h1.cell 6 rfl
  have c7 := h1.cell 7 rfl
  have c8 := h1.cell 8 rfl
  have c10 := h1.cell 10 rfl
  clear h1
  by_cases hp6 : p.proto = 6
  · obtain ⟨v, hv⟩ : ∃ v, prsT p.src p.dst p.body = v := ⟨_, rfl⟩
    have HV := Go.Lib.hid hv
    clear hv
    have t6 : (p.proto == 6) = true := by simpa using hp6
    go_upto_region 4 with (go_at_call 43; refine (tparse p.src p.dst Ab p.body.length cb p.body W ⟨s0, s1⟩ ⟨d0, d1⟩ rfl (HBS.out.below y0 |>.more y0.size) hb hbl hbc hbn).mono ?_; rw [HV.out]; rintro e w3 ⟨A5, c5, A4, c4, rfl, hg⟩; have y3 := hg.below; clear hg; dsimp only)
    have B6 := Go.Lib.hid (Bxo.made w3 54 [.int .i64 v.2.sport, .int .i64 v.2.dport, .int .u32 v.2.seq, .int .u32 v.2.ack, .int .i64 v.2.flags, .int .i64 v.2.win, .int .i64 v.2.urg, .slice A5 v.2.opts.length c5, .slice A4 v.2.body.length c4])
    have x4 : Below w.heap.size w (w3.alloc (.cells #[.int .i64 v.2.sport, .int .i64 v.2.dport, .int .u32 v.2.seq, .int .u32 v.2.ack, .int .i64 v.2.flags, .int .i64 v.2.win, .int .i64 v.2.urg, .slice A5 v.2.opts.length c5, .slice A4 v.2.body.length c4] 54)) := below_alloc (y0.trans (y3.mono y0.size)) (Nat.le_trans y0.size y3.size) _
    clear y3 y0 c6 c7 c8 c10
    obtain ⟨f, u⟩ := v
    dsimp only at *
    generalize w3.alloc (.cells #[.int .i64 u.sport, .int .i64 u.dport, .int .u32 u.seq, .int .u32 u.ack, .int .i64 u.flags, .int .i64 u.win, .int .i64 u.urg, .slice A5 u.opts.length c5, .slice A4 u.body.length c4] 54) = W4 at *
    generalize w3.heap.size = g6 at *
    have HE : Hid ((u.sport, u.dport, f) = (a, b, e)) := Go.Lib.hid (by rw [← HQ.out]; unfold ptP; rw [if_pos hp6, HV.out])
    have h1 : u.sport = a := by have := HE.out; simp only [Prod.mk.injEq] at this; exact this.1
    have h2 : u.dport = b := by have := HE.out; simp only [Prod.mk.injEq] at this; exact this.2.1
    have h3 : f = e := by have := HE.out; simp only [Prod.mk.injEq] at this; exact this.2.2
    have a0 := B6.out.cell 0 rfl
    have a1 := B6.out.cell 1 rfl
    rw [h1] at a0
    rw [h2] at a1
    subst h3
    clear B6 h1 h2 HE
    go_quiet (fail)
    go_wp2
    go_ret3
    exact ⟨rfl, below_dn x4 _⟩
  by_cases hp17 : p.proto = 17
  · obtain ⟨v, hv⟩ : ∃ v, prsU p.src p.dst p.body = v := ⟨_, rfl⟩
    have HV := Go.Lib.hid hv
    clear hv
    have t6 : (p.proto == 6) = false := by simpa using hp6
    have t17 : (p.proto == 17) = true := by simpa using hp17
    go_upto_region 7 with (go_at_call 44; refine (uparse p.src p.dst Ab p.body.length cb p.body W ⟨s0, s1⟩ ⟨d0, d1⟩ rfl (HBS.out.below y0 |>.more y0.size) hb hbl hbc).mono ?_; rw [HV.out]; rintro e w3 ⟨A4, c4, rfl, hg⟩; have y3 := hg.below; clear hg; dsimp only)
    have B6 := Go.Lib.hid (Bxo.made w3 50 [.int .i64 v.2.sport, .int .i64 v.2.dport, .bool v.2.nosum, .slice A4 v.2.body.length c4])
    have x4 : Below w.heap.size w (w3.alloc (.cells #[.int .i64 v.2.sport, .int .i64 v.2.dport, .bool v.2.nosum, .slice A4 v.2.body.length c4] 50)) := below_alloc (y0.trans (y3.mono y0.size)) (Nat.le_trans y0.size y3.size) _
    clear y3 y0 c6 c7 c8 c10
    obtain ⟨f, u⟩ := v
    dsimp only at *
    generalize w3.alloc (.cells #[.int .i64 u.sport, .int .i64 u.dport, .bool u.nosum, .slice A4 u.body.length c4] 50) = W4 at *
    generalize w3.heap.size = g6 at *
    have HE : Hid ((u.sport, u.dport, f) = (a, b, e)) := Go.Lib.hid (by rw [← HQ.out]; unfold ptP; rw [if_neg hp6, if_pos hp17, HV.out])
    have h1 : u.sport = a := by have := HE.out; simp only [Prod.mk.injEq] at this; exact this.1
    have h2 : u.dport = b := by have := HE.out; simp only [Prod.mk.injEq] at this; exact this.2.1
    have h3 : f = e := by have := HE.out; simp only [Prod.mk.injEq] at this; exact this.2.2
    have a0 := B6.out.cell 0 rfl
    have a1 := B6.out.cell 1 rfl
    rw [h1] at a0
    rw [h2] at a1
    subst h3
    clear B6 h1 h2 HE
    go_quiet (fail)
    go_wp2
    go_ret3
    exact ⟨rfl, below_dn x4 _⟩
  have t6 : (p.proto == 6) = false := by simpa using hp6
  have t17 : (p.proto == 17) = false := by simpa using hp17
  by_cases hp1 : p.proto = 1
  · have t1 : (p.proto == 1) = true := by simpa using hp1
    obtain ⟨⟨x1, x2⟩, hx⟩ : ∃ x, nmP p.body = x := ⟨_, rfl⟩
    have HX := Go.Lib.hid hx
    have HE : Hid ((x1, x1, x2) = (a, b, e)) := Go.Lib.hid (by rw [← HQ.out]; unfold ptP; rw [if_neg hp6, if_neg hp17, if_pos hp1, hx])
    have h1 : x1 = a := by have := HE.out; simp only [Prod.mk.injEq] at this; exact this.1
    have h2 : a = b := by have := HE.out; simp only [Prod.mk.injEq] at this; exact this.1.symm.trans this.2.1
    have h3 : x2 = e := by have := HE.out; simp only [Prod.mk.injEq] at this; exact this.2.2
    clear hx HE
    subst h1 h2 h3
    go_wp2_with (go_at_call 45; refine (cnameIn Ab p.body.length cb p.body W rfl (HBS.out.below y0 |>.more y0.size) hb hbl hbc x1 x2 HX.out).mono ?_; rintro e w3 ⟨rfl, y3⟩; dsimp only)
    go_ret3
    exact ⟨rfl, y0.trans (y3.mono y0.size)⟩
  · have t1 : (p.proto == 1) = false := by simpa using hp1
    have HE : Hid (((0 : Int), (0 : Int), (9 : Int)) = (a, b, e)) := Go.Lib.hid (by rw [← HQ.out]; unfold ptP; rw [if_neg hp6, if_neg hp17, if_neg hp1])
    have h1 : 0 = a := by have := HE.out; simp only [Prod.mk.injEq] at this; exact this.1
    have h2 : 0 = b := by have := HE.out; simp only [Prod.mk.injEq] at this; exact this.2.1
    have h3 : 9 = e := by have := HE.out; simp only [Prod.mk.injEq] at this; exact this.2.2
    clear HE
    subst h1 h2 h3
    go_wp2
    go_ret3
    exact ⟨rfl, y0⟩
theorem pkIn_more {w w' : World} {p : Pk} {Ao : Option Addr} {co : Nat} {Ab : Option Addr} {cb : Nat} (h : PkIn w p Ao co Ab cb) (y : Below w.heap.size w w') : PkIn w' p Ao co Ab cb :=
  ⟨h.rng, h.olen, h.ocap, h.onil, (h.obs.below y).more y.size, h.blen, h.bcap, h.bnil, (h.bbs.below y).more y.size⟩
set_option maxRecDepth 100000 in
set_option maxHeartbeats 8000000 in
theorem cof9 : OfC9 := by
  intro p Ao co Ab cb w q hq hp _ hb
  rw [of_ports] at hq
  obtain ⟨⟨x1, x2, e1⟩, hx⟩ : ∃ x, ptP p = x := ⟨_, rfl⟩
  rw [hx] at hq
  dsimp only at hq
  have HQ := Go.Lib.hid hq
  have HX := Go.Lib.hid hx
  have HP := Go.Lib.hid hp
  have y0 : Below w.heap.size w ((w.alloc (oPk p Ao co Ab cb)).alloc (oTp tp0)) := below_alloc (below_alloc (Below.refl _ _) (Nat.le_refl _) _) (by simp) _
  have h1 := (Bxo.made w 25 (pkL p Ao co Ab cb)).alloc (oTp tp0)
  have h2 : Bxo ((w.alloc (oPk p Ao co Ab cb)).alloc (oTp tp0)) (w.heap.size + 1) 27 (tpL tp0) := by
    have := Bxo.made (w.alloc (oPk p Ao co Ab cb)) 27 (tpL tp0)
    simpa using this
  obtain ⟨pc, hpc⟩ : ∃ pc : Bool, (p.mf || (p.off != 0)) = pc := ⟨_, rfl⟩
  have HPC := Go.Lib.hid hpc
  clear hq hx hp hpc
  go_enter Try.func9, Try.ntmps9
  go_upto_region 1 with fail
  generalize ((w.alloc (oPk p Ao co Ab cb)).alloc (oTp tp0)) = W at *
  have H1 := Go.Lib.hid h1
  have H2 := Go.Lib.hid h2
  clear h1 h2
  cases pc
  · have hnp : ¬ (p.mf = true ∨ p.off ≠ 0) := by have := HPC.out; simpa using this
    by_cases he : e1 = 0
    · have HE : Hid (q = (⟨p.proto, p.src, x1, p.dst, x2⟩, 0)) := Go.Lib.hid (by rw [← HQ.out, if_neg hnp, if_pos he])
      subst he
      clear hnp
      go_upto_region 4 with (first
        | (refine wpList_load_box rfl 25 _ rfl w.heap.size rfl (pkL p Ao co Ab cb) _ H1.out Try.underlying25 rfl info_pk ?_)
        | (go_at_call 22; refine (cpiece p Ao co Ab cb _).mono ?_; rw [HPC.out]; rintro e w1 ⟨rfl, y1⟩; have H1 := Go.Lib.hid (H1.out.keep y1 H1.out.lt); have H2 := Go.Lib.hid (H2.out.keep y1 H2.out.lt); have x1' := y0.trans (y1.mono y0.size); dsimp only)
        | (go_at_call 23; refine (cports p Ao co Ab cb w1 (pkIn_more HP.out x1') hb _ _ _ HX.out).mono ?_; rintro e w2 ⟨rfl, y2⟩; have H1 := Go.Lib.hid (H1.out.keep y2 H1.out.lt); have H2 := Go.Lib.hid (H2.out.keep y2 H2.out.lt); have x2' := x1'.trans (y2.mono x1'.size); dsimp only))
      have c6 := H1.out.cell 6 rfl
      have c7 := H1.out.cell 7 rfl
      have c8 := H1.out.cell 8 rfl
      go_wp2_with (refine wpList_store_any rfl 27 _ _ rfl (w.heap.size + 1) 0 27 _ (tpL ⟨p.proto, p.src, x1, p.dst, x2⟩) _ rfl rfl rfl H2.out info_tp (by show 0 + 5 ≤ 5; omega) (tp_one _) ?_; intro wF hbF hoF; have HBF := Go.Lib.hid hbF; clear hbF)
      exact bodyPost_ret (v := .tuple #[.agg (tpL ⟨p.proto, p.src, x1, p.dst, x2⟩).toArray, .int .i64 0]) (results_ct9 (p := 2) (u := 3) rfl _ _ (w.heap.size + 1) _ _ rfl HBF.out Try.underlying27 rfl info_tp) rfl ⟨by rw [HE.out], x2'.trans (hoF.below (show w.heap.size ≤ w.heap.size + 1 by omega))⟩
    · have HE : Hid (q = (tp0, e1)) := Go.Lib.hid (by rw [← HQ.out, if_neg hnp, if_neg he])
      have te : (e1 != 0) = true := by simpa using he
      clear hnp
      go_wp2_with (first
        | (refine wpList_load_box rfl 25 _ rfl w.heap.size rfl (pkL p Ao co Ab cb) _ H1.out Try.underlying25 rfl info_pk ?_)
        | (go_at_call 22; refine (cpiece p Ao co Ab cb _).mono ?_; rw [HPC.out]; rintro e w1 ⟨rfl, y1⟩; have H1 := Go.Lib.hid (H1.out.keep y1 H1.out.lt); have H2 := Go.Lib.hid (H2.out.keep y1 H2.out.lt); have x1' := y0.trans (y1.mono y0.size); dsimp only)
        | (go_at_call 23; refine (cports p Ao co Ab cb w1 (pkIn_more HP.out x1') hb _ _ _ HX.out).mono ?_; rintro e w2 ⟨rfl, y2⟩; have H1 := Go.Lib.hid (H1.out.keep y2 H1.out.lt); have H2 := Go.Lib.hid (H2.out.keep y2 H2.out.lt); have x2' := x1'.trans (y2.mono x1'.size); dsimp only)
        | (refine wpList_store_any rfl 27 _ _ rfl (w.heap.size + 1) 0 27 _ (tpL tp0) _ rfl rfl rfl H2.out info_tp (by show 0 + 5 ≤ 5; omega) (tp_one _) ?_; intro wF hbF hoF; have HBF := Go.Lib.hid hbF; clear hbF))
      exact bodyPost_ret (v := .tuple #[.agg (tpL tp0).toArray, .int .i64 e1]) (results_ct9 (p := 2) (u := 3) rfl _ _ (w.heap.size + 1) _ _ rfl HBF.out Try.underlying27 rfl info_tp) rfl ⟨by rw [HE.out], x2'.trans (hoF.below (show w.heap.size ≤ w.heap.size + 1 by omega))⟩
  · have HE : Hid (q = (tp0, 7)) := Go.Lib.hid (by rw [← HQ.out, if_pos (by have := HPC.out; simpa using this)])
    go_wp2_with (first
      | (refine wpList_load_box rfl 25 _ rfl w.heap.size rfl (pkL p Ao co Ab cb) _ H1.out Try.underlying25 rfl info_pk ?_)
      | (go_at_call 22; refine (cpiece p Ao co Ab cb _).mono ?_; rw [HPC.out]; rintro e w1 ⟨rfl, y1⟩; have H2 := Go.Lib.hid (H2.out.keep y1 H2.out.lt); have x1 := y0.trans (y1.mono y0.size); dsimp only)
      | (refine wpList_store_any rfl 27 _ _ rfl (w.heap.size + 1) 0 27 _ (tpL tp0) _ rfl rfl rfl H2.out info_tp (by show 0 + 5 ≤ 5; omega) (tp_one _) ?_; intro wF hbF hoF; have HBF := Go.Lib.hid hbF; clear hbF))
    exact bodyPost_ret (v := .tuple #[.agg (tpL tp0).toArray, .int .i64 7]) (results_ct9 (p := 2) (u := 3) rfl _ _ (w.heap.size + 1) _ _ rfl HBF.out Try.underlying27 rfl info_tp) rfl ⟨by rw [HE.out], x1.trans (hoF.below (show w.heap.size ≤ w.heap.size + 1 by omega))⟩
end Go.Proofs.Ytmgkkgpdnopeaaa

/- Contracts of package tuple: words of bytes in an array; Turn, Right. -/
namespace Go.Proofs.Ytmgkkgpdnopeaaa
open Go.ChangeShapes Go.WideShapes Go.ChangeAt Go.RowKit
set_option linter.unusedVariables false
set_option linter.unusedSimpArgs false

abbrev u8L (l : List Int) : List Value := l.map (fun n => .int .u8 n)
theorem u8_one (l : List Int) : ∀ u ∈ u8L l, u.oneCell' = true := by
  intro u hu
  obtain ⟨n, _, rfl⟩ := List.mem_map.1 hu
  rfl
set_option maxHeartbeats 400000 in
theorem tupTo9 (n m : Int) (w : World) (b : Bool) (hb : upB n m = b) :
    Calls Try.prog 27 #[.int .i64 n, .int .i64 m] w fun e w' => e = .returned (.bool b) ∧ w = w' := by
  subst hb
  unfold upB
  by_cases h0 : 0 ≤ n
  · by_cases h1 : n ≤ m
    · go_enter Try.func27, Try.ntmps27
      go_wp2
      go_ret
      exact ⟨by simp [h0, h1], rfl⟩
    · go_enter Try.func27, Try.ntmps27
      go_wp2
      go_ret
      exact ⟨by simp [h1], rfl⟩
  · go_enter Try.func27, Try.ntmps27
    go_wp2
    go_ret
    exact ⟨by simp; omega, rfl⟩
abbrev setW (cs : List Value) (k : Nat) (x : Int) : List Value := (cs.set k (.int .u8 (x / 256))).set (k + 1) (.int .u8 (x % 256))
set_option maxHeartbeats 400000 in
theorem tputWord9 (w : World) (g : Nat) (ty : TypeId) (cs : List Value) (H : Bxo w g ty cs) (hn : cs.length = 13) (k : Nat) (ki : Int) (hki : ki = (k : Int)) (hk : k + 1 < 13) (x : Int) (x0 : 0 ≤ x) (x1 : x ≤ 65535) :
    Calls Try.prog 53 #[.slice (some ⟨g, 0, none⟩) 13 13, .int .i64 ki, .int .u16 x] w fun e w' => e = .returned (.tuple #[]) ∧ Bxo w' g ty (setW cs k x) ∧ Only g w w' := by
  subst hki
  have c0 := H.cell k (List.getElem?_eq_getElem (by omega))
  have c1 := H.cell (k + 1) (List.getElem?_eq_getElem (by omega))
  have r0 := H.frozen k
  have r1 := H.frozen (k + 1)
  have S1 := (H.set k (.int .u8 (x / 256))).set (k + 1) (.int .u8 (x % 256))
  have S2 := ((Only.refl (g := g) (w := w)).set k (.int .u8 (x / 256))).set (k + 1) (.int .u8 (x % 256))
  have S := Go.Lib.hid (And.intro S1 S2)
  clear S1 S2
  generalize cs[k] = v0 at *
  generalize cs[k + 1] = v1 at *
  have HN := Go.Lib.hid hn
  clear H hn
  have e1 := IntKind.wrap_u8 x
  have e2 := IntWalk.u8_in (x / 256) (by omega)
  have i0 : (k : Int) < 13 := by omega
  have i1 : (k : Int) + 1 < 13 := by omega
  have j0 : (0 : Int) ≤ (k : Int) := by omega
  have j1 : (0 : Int) ≤ (k : Int) + 1 := by omega
  have s1 : IntKind.i64.wrap ((k : Int) + 1) = (k : Int) + 1 := IntWalk.i64_in _ (by omega)
  have s2 : ((k : Int) + 1).toNat = k + 1 := by omega
  go_enter Try.func53, Try.ntmps53
  go_wp2
  go_end0
  exact ⟨rfl, S.out⟩
abbrev setA (cs : List Value) (k : Nat) (a : Int) : List Value := setW (setW cs k (a / 65536)) (k + 2) (a % 65536)
set_option maxHeartbeats 400000 in
theorem tputAddr9 (w : World) (g : Nat) (ty : TypeId) (cs : List Value) (H : Bxo w g ty cs) (hn : cs.length = 13) (k : Nat) (ki : Int) (hki : ki = (k : Int)) (hk : k + 3 < 13) (a : Int) (a0 : 0 ≤ a) (a1 : a ≤ 4294967295) :
    Calls Try.prog 52 #[.slice (some ⟨g, 0, none⟩) 13 13, .int .i64 ki, .int .u32 a] w fun e w' => e = .returned (.tuple #[]) ∧ Bxo w' g ty (setA cs k a) ∧ Only g w w' := by
  have HB := Go.Lib.hid H
  clear H
  subst hki
  have e1 := IntKind.wrap_u16 a
  have e2 := IntWalk.u16_in (a / 65536) (by omega)
  have s1 : IntKind.i64.wrap ((k : Int) + 2) = (k : Int) + 2 := IntWalk.i64_in _ (by omega)
  go_enter Try.func52, Try.ntmps52
  go_wp2_with fail
  refine (tputWord9 w g ty cs HB.out hn k k rfl (by omega) (a / 65536) (by omega) (by omega)).mono ?_
  rintro e w1 ⟨rfl, hb1, ho1⟩
  have HB1 := Go.Lib.hid hb1
  clear hb1 HB
  dsimp only
  go_wp2_with fail
  refine (tputWord9 w1 g ty _ HB1.out (by simp [hn]) (k + 2) ((k : Int) + 2) (by omega) (by omega) (a % 65536) (by omega) (by omega)).mono ?_
  rintro e w2 ⟨rfl, hb2, ho2⟩
  have HB2 := Go.Lib.hid hb2
  clear hb2
  dsimp only
  go_wp2
  go_end0
  exact ⟨rfl, HB2.out, ho1.trans ho2⟩
set_option maxRecDepth 100000 in
set_option maxHeartbeats 4000000 in
theorem cturn9 : TurnC9 := by
  intro t w _
  have y0 : Below w.heap.size w ((w.alloc (oTp t)).alloc (oTp tp0)) := below_alloc (below_alloc (Below.refl _ _) (Nat.le_refl _) _) (by simp) _
  have h1 := (Bxo.made w 27 (tpL t)).alloc (oTp tp0)
  have h2 : Bxo ((w.alloc (oTp t)).alloc (oTp tp0)) (w.heap.size + 1) 27 (tpL tp0) := by
    have := Bxo.made (w.alloc (oTp t)) 27 (tpL tp0)
    simpa using this
  go_enter Try.func11, Try.ntmps11
  go_upto_region 1 with fail
  generalize ((w.alloc (oTp t)).alloc (oTp tp0)) = W at *
  have H1 := Go.Lib.hid h1
  have H2 := Go.Lib.hid h2
  clear h1 h2
  have c0 := H1.out.cell 0 rfl
  have c1 := H1.out.cell 1 rfl
  have c2 := H1.out.cell 2 rfl
  have c3 := H1.out.cell 3 rfl
  have c4 := H1.out.cell 4 rfl
  go_wp2_with (refine wpList_store_any rfl 27 _ _ rfl (w.heap.size + 1) 0 27 _ (tpL (turnT t)) _ rfl rfl rfl H2.out info_tp (by show 0 + 5 ≤ 5; omega) (tp_one _) ?_; intro wF hbF hoF; have HBF := Go.Lib.hid hbF; clear hbF)
  exact bodyPost_ret (v := tpV (turnT t)) (results_cell_row rfl _ _ (w.heap.size + 1) 27 _ _ _ rfl HBF.out Try.underlying27 rfl info_tp) rfl ⟨rfl, y0.trans (hoF.below (show w.heap.size ≤ w.heap.size + 1 by omega))⟩
theorem rightT_up (t : Tp) : rightT t = (upB t.proto 255 && upB t.sport 65535 && upB t.dport 65535) := by
  rw [Bool.eq_iff_iff, rightT_iff]
  simp [upB]
  omega
set_option maxRecDepth 100000 in
set_option maxHeartbeats 4000000 in
theorem cright9 : RightC9 := by
  intro t w b hb _
  rw [rightT_up] at hb
  have HB := Go.Lib.hid hb
  have y0 : Below w.heap.size w (w.alloc (oTp t)) := (Below.refl _ _).alloc (Nat.le_refl _) _
  have h1 := Bxo.made w 27 (tpL t)
  clear hb
  obtain ⟨b1, e1⟩ : ∃ b1, upB t.proto 255 = b1 := ⟨_, rfl⟩
  obtain ⟨b2, e2⟩ : ∃ b2, upB t.sport 65535 = b2 := ⟨_, rfl⟩
  obtain ⟨b3, e3⟩ : ∃ b3, upB t.dport 65535 = b3 := ⟨_, rfl⟩
  rw [e1, e2, e3] at HB
  go_enter Try.func13, Try.ntmps13
  go_upto_region 1 with fail
  generalize w.alloc (oTp t) = W at *
  have c0 := h1.cell 0 rfl
  have c2 := h1.cell 2 rfl
  have c4 := h1.cell 4 rfl
  clear h1
  go_wp2_with fail
  refine (tupTo9 t.proto 255 _ b1 e1).mono ?_
  rintro e w1 ⟨rfl, rfl⟩
  dsimp only
  cases b1
  · go_wp2
    go_ret
    exact ⟨ret_bool (by have := HB.out; simpa using this), y0⟩
  go_wp2_with fail
  refine (tupTo9 t.sport 65535 _ b2 e2).mono ?_
  rintro e w1 ⟨rfl, rfl⟩
  dsimp only
  cases b2
  · go_wp2
    go_ret
    exact ⟨ret_bool (by have := HB.out; simpa using this), y0⟩
  go_wp2_with fail
  refine (tupTo9 t.dport 65535 _ b3 e3).mono ?_
  rintro e w1 ⟨rfl, rfl⟩
  dsimp only
  go_wp2
  go_ret
  exact ⟨ret_bool (by have := HB.out; simpa using this), y0⟩
end Go.Proofs.Ytmgkkgpdnopeaaa
