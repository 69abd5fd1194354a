/- The contract of package tcp's Parse. -/
import Derived.Test.YtghgemmbbedopaaTcpA10
namespace Go.Proofs.Ytghgemmbbedopaa
open Go.ChangeShapes Go.WideShapes Go.ChangeAt Go.RowKit
set_option linter.unusedVariables false
set_option linter.unusedSimpArgs false

/-- what Parse hands back. -/
structure GivT (w w' : World) (t : Tc) (Ao : Option Addr) (co : Nat) (Ab : Option Addr) (cb : Nat) : Prop where
  is : TcIn w' w'.heap.size t Ao co Ab cb
  below : Below w.heap.size w w'
structure ParsT (w : World) (q : Int × Tc) (e : Ending) (w' : World) : Prop where
  ex : ∃ Ao co Ab cb, e = .returned (.tuple #[tcV q.2 Ao co Ab cb, .int .i64 q.1]) ∧ GivT w w' q.2 Ao co Ab cb
theorem tcIn_nought {w : World} {B : Nat} : TcIn w B Tc.empty none 0 none 0 :=
  ⟨by decide, by decide, by decide, by decide, Nat.le_refl _, by omega, fun _ => rfl, .inl rfl, Nat.le_refl _, by omega, fun _ => rfl, .inl rfl⟩
theorem parsT_err {w w' : World} {q : Int × Tc} {e : Ending} {n : Int} (hq : q = (n, Tc.empty)) (he : e = .returned (.tuple #[.agg #[.int .i64 0, .int .i64 0, .int .u32 0, .int .u32 0, .int .i64 0, .int .i64 0, .int .i64 0, .slice none 0 0, .slice none 0 0], .int .i64 n])) (h : Below w.heap.size w w') : ParsT w q e w' := by
  subst hq
  exact ⟨none, 0, none, 0, he, tcIn_nought, h⟩

set_option maxRecDepth 100000 in
set_option maxHeartbeats 4000000 in
theorem tparseA (src dst : Int) (A : Option Addr) (n c : Nat) (l : List UInt8) (w : World) (hn : l.length = n) (h : Bs w w.heap.size A l) (hn2 : n ≤ 16777216) (hM : tmE l ≠ 0) :
    Calls Try.prog 17 #[.int .u32 src, .int .u32 dst, .slice A n c] w (ParsT w (prsT src dst l)) := by
  have hb : Bs (Zt w) w.heap.size A l := h.below (Zt.below (Below.refl _ _))
  have HP := Go.Lib.hid (prsT_meas (src := src) (dst := dst) hM)
  have HM : Hid (tmH l = 0) := Go.Lib.hid (if_neg hM)
  have t1 : (tmE l != 0) = true := by simpa using hM
  have x0 : Below (w.heap.size + 1) (Zt w) (Zt w) := Below.refl _ _
  clear hM h
  go_enter Try.func17, Try.ntmps17
  go_wp2_with fail
  refine (tmeasure A n c l w.heap.size _ hn hb hn2).mono ?_
  rintro e w1 ⟨rfl, rfl⟩
  rw [HM.out]
  dsimp only
  generalize tmE l = q at *
  obtain ⟨⟨z0, z1, z2, z3, z4, z5, z6, z7, z8⟩, zf⟩ := zt_of x0
  have y0 := Zt.below x0
  clear hb x0
  generalize Zt w = X at *
  go_wp2
  refine bodyPost_ret (v := .tuple #[.agg #[.int .i64 0, .int .i64 0, .int .u32 0, .int .u32 0, .int .i64 0, .int .i64 0, .int .i64 0, .slice none 0 0, .slice none 0 0], .int .i64 q]) ?_ rfl (parsT_err HP.out rfl ?_)
  · simp [results, Try.results17, go_sem, z0, z1, z2, z3, z4, z5, z6, z7, z8]
  · exact below_s9 y0 (Nat.le_refl _) _ _ _ _ _ _ _ _ _

set_option maxRecDepth 100000 in
set_option maxHeartbeats 4000000 in
theorem tparseB (src dst : Int) (A : Option Addr) (n c : Nat) (l : List UInt8) (w : World) (hs : 0 ≤ src ∧ src ≤ 4294967295) (hd : 0 ≤ dst ∧ dst ≤ 4294967295) (hn : l.length = n) (h : Bs w w.heap.size A l) (hn2 : n ≤ 16777216) (hnc : n ≤ c) (hc63 : c ≤ 9223372036854775807) (hM : tmE l = 0) (hS : sumT 6 src dst l ≠ 65535) :
    Calls Try.prog 17 #[.int .u32 src, .int .u32 dst, .slice A n c] w (ParsT w (prsT src dst l)) := by
  have hb : Bs (Zt w) w.heap.size A l := h.below (Zt.below (Below.refl _ _))
  obtain ⟨m1, m2, m3, m4, m5⟩ := tmE_ok hM
  have HP : Hid (prsT src dst l = (5, Tc.empty)) := Go.Lib.hid (by unfold prsT; rw [if_neg (by omega), if_neg (by omega), if_neg (by omega), if_pos hS])
  have HM := Go.Lib.hid hM
  obtain ⟨s, hsum⟩ : ∃ s : Int, sumT 6 src dst l = s := ⟨_, rfl⟩
  rw [hsum] at hS
  have HS := Go.Lib.hid hsum
  have t1 : (s != 65535) = true := by simpa using hS
  have x0 : Below (w.heap.size + 1) (Zt w) (Zt w) := Below.refl _ _
  have HN := Go.Lib.hid hn
  have HB := Go.Lib.hid h
  clear hM h hS hsum m1 m2 m3 m4 m5
  go_enter Try.func17, Try.ntmps17
  go_wp2_with fail
  refine (tmeasure A n c l w.heap.size _ hn hb hn2).mono ?_
  rintro e w1 ⟨rfl, rfl⟩
  rw [HM.out]
  dsimp only
  generalize tmH l = q at *
  have HX := Go.Lib.hid x0
  clear hn hb x0
  go_wp2_with fail
  refine (tsum src dst A n c l w.heap.size _ s HS.out hs hd HN.out (HB.out.below (Zt.below HX.out)) hn2 hnc hc63).mono ?_
  rintro e w2 ⟨rfl, m2, rfl⟩
  dsimp only
  have x2 : Below (w.heap.size + 1) (Zt w) ((Zt w).drewN m2) := below_dn HX.out m2
  obtain ⟨⟨z0, z1, z2, z3, z4, z5, z6, z7, z8⟩, zf⟩ := zt_of x2
  have y0 := Zt.below x2
  clear HX x2
  generalize (Zt w).drewN m2 = X2 at *
  go_wp2
  refine bodyPost_ret (v := .tuple #[.agg #[.int .i64 0, .int .i64 0, .int .u32 0, .int .u32 0, .int .i64 0, .int .i64 0, .int .i64 0, .slice none 0 0, .slice none 0 0], .int .i64 5]) ?_ rfl (parsT_err HP.out rfl ?_)
  · simp [results, Try.results17, go_sem, z0, z1, z2, z3, z4, z5, z6, z7, z8]
  · exact below_s9 y0 (Nat.le_refl _) _ _ _ _ _ _ _ _ _

theorem parsT_ok {w w' : World} {q : Int × Tc} {e : Ending} {t : Tc} {Ao : Option Addr} {co : Nat} {Ab : Option Addr} {cb : Nat} (hq : q = (0, t)) (he : e = .returned (.tuple #[tcV t Ao co Ab cb, .int .i64 0])) (h : GivT w w' t Ao co Ab cb) : ParsT w q e w' := by
  subst hq
  exact ⟨Ao, co, Ab, cb, he, h⟩
theorem tread_t (A : Option Addr) (n c : Nat) (l : List UInt8) (w : World) (hn : l.length = n) (h : Bs w w.heap.size A l) (hn2 : n ≤ 16777216) (h20 : 20 ≤ n) (hnc : n ≤ c) (hc63 : c ≤ 9223372036854775807) (k : Nat) (hk0 : 20 ≤ k) (hk : k ≤ n) (os : List Op) (Ao : Option Addr) (no co : Nat) (hno : os.length = no) (t : Tc) (ht : rdT l k os = t) :
    Calls Try.prog 35 #[.slice A n c, .int .i64 k, .slice Ao no co] w fun e w' => ∃ Ab cb, e = .returned (tcV t Ao co Ab cb) ∧ ReadT w w' (l.drop k) Ab cb := ht ▸ tread A n c l w hn h hn2 h20 hnc hc63 k hk0 hk os Ao no co hno
theorem prsT_C {src dst : Int} {l : List UInt8} (h : tmE l = 0) (hs : sumT 6 src dst l = 65535) {k : Nat} (hk : (k : Int) = tsz l) : prsT src dst l =
    (match pOpts 60 ((l.take k).drop 20) [] with
    | none => (6, Tc.empty)
    | some os => (0, rdT l k os)) := by
  obtain ⟨m1, m2, m3, m4, m5⟩ := tmE_ok h
  have e : (tsz l).toNat = k := by omega
  unfold prsT
  rw [if_neg (by omega), if_neg (by omega), if_neg (by omega), if_neg (by omega), e]
  rfl

set_option maxRecDepth 100000 in
set_option maxHeartbeats 8000000 in
theorem tparseC (src dst : Int) (A : Option Addr) (n c : Nat) (l : List UInt8) (w : World) (hs : 0 ≤ src ∧ src ≤ 4294967295) (hd : 0 ≤ dst ∧ dst ≤ 4294967295) (hn : l.length = n) (h : Bs w w.heap.size A l) (hn2 : n ≤ 16777216) (hnc : n ≤ c) (hc63 : c ≤ 9223372036854775807) (hA : A = none → c = 0) (hM : tmE l = 0) (hS : sumT 6 src dst l = 65535) :
    Calls Try.prog 17 #[.int .u32 src, .int .u32 dst, .slice A n c] w (ParsT w (prsT src dst l)) := by
  obtain ⟨m1, m2, m3, m4, m5⟩ := tmE_ok hM
  obtain ⟨ad, rfl, hlt, _⟩ := g8_cells h (by omega)
  have hb : Bs (Zt w) w.heap.size (some ad) l := h.below (Zt.below (Below.refl _ _))
  obtain ⟨k, hk⟩ : ∃ k : Nat, (k : Int) = tsz l := ⟨(tsz l).toNat, by omega⟩
  have HP := Go.Lib.hid (prsT_C hM hS hk)
  have HH : Hid (tmH l = (k : Int)) := Go.Lib.hid (by unfold tmH; rw [if_pos hM, hk])
  have HM := Go.Lib.hid hM
  have HS := Go.Lib.hid hS
  have x0 : Below (w.heap.size + 1) (Zt w) (Zt w) := Below.refl _ _
  have HN := Go.Lib.hid hn
  have HB := Go.Lib.hid h
  have k20 : 20 ≤ k := by omega
  have k60 : k ≤ 60 := by omega
  have kn : k ≤ n := by omega
  have i1 : (20 : Int) ≤ (k : Int) := by omega
  have i2 : (k : Int) ≤ (c : Int) := by omega
  have HDB : Hid (Bs w w.heap.size (if c = 20 then (some ad : Option Addr) else some { block := ad.block, off := ad.off + 20 }) ((l.take k).drop 20)) := Go.Lib.hid ((h.take k).cut 20 c (by rw [List.length_take]; omega) (by omega))
  have HDN : Hid ((if c = 20 then (some ad : Option Addr) else some { block := ad.block, off := ad.off + 20 }) = none → c - 20 = 0) := Go.Lib.hid (fun h => by split at h <;> cases h)
  have HDL : Hid (((l.take k).drop 20).length = k - 20) := Go.Lib.hid (by rw [List.length_drop, List.length_take]; omega)
  clear hM h hS m1 m2 m3 m4 m5 hk hA
  obtain ⟨A30, hA30⟩ : ∃ A30, (if c = 20 then (some ad : Option Addr) else some { block := ad.block, off := ad.off + 20 }) = A30 := ⟨_, rfl⟩
  have HDB : Hid (Bs w w.heap.size A30 ((l.take k).drop 20)) := Go.Lib.hid (hA30 ▸ HDB.out)
  have HDN : Hid (A30 = none → c - 20 = 0) := Go.Lib.hid (hA30 ▸ HDN.out)
  go_enter Try.func17, Try.ntmps17
  go_wp2_with fail
  refine (tmeasure (some ad) n c l w.heap.size _ hn hb hn2).mono ?_
  rintro e w1 ⟨rfl, rfl⟩
  rw [HM.out, HH.out]
  dsimp only
  have HX := Go.Lib.hid x0
  clear hn hb x0
  go_wp2_with fail
  refine (tsum src dst (some ad) n c l w.heap.size _ 65535 HS.out hs hd HN.out (HB.out.below (Zt.below HX.out)) hn2 hnc hc63).mono ?_
  rintro e w2 ⟨rfl, m2, rfl⟩
  dsimp only
  have x2 : Below (w.heap.size + 1) (Zt w) ((Zt w).drewN m2) := below_dn HX.out m2
  clear HX
  generalize (Zt w).drewN m2 = X2 at *
  have y2 := Zt.below x2
  have sz2 := Zt.size x2
  obtain ⟨r, hr⟩ : ∃ r, pOpts 60 ((l.take k).drop 20) [] = r := ⟨_, rfl⟩
  have HR := Go.Lib.hid hr
  clear hr
  go_wp2_with fail
  refine (treadOpts A30 (k - 20) (c - 20) ((l.take k).drop 20) X2 HDL.out ((HDB.out.below y2).more y2.size) (by omega) (by omega) (by omega) HDN.out).mono ?_
  rw [HR.out]
  intro e w3 h3
  have x3 : Below (w.heap.size + 1) (Zt w) w3 := x2.trans (h3.below.mono sz2)
  have y3 := Zt.below x3
  have sz3 := Zt.size x3
  obtain ⟨⟨z0, z1, z2, z3, z4, z5, z6, z7, z8⟩, zf⟩ := zt_of x3
  cases r with
  | none =>
    obtain rfl := h3.no rfl
    dsimp only
    have HP2 : Hid (prsT src dst l = (6, Tc.empty)) := Go.Lib.hid (by rw [HP.out, HR.out])
    clear h3 x2 x3
    go_wp2
    refine bodyPost_ret (v := .tuple #[.agg #[.int .i64 0, .int .i64 0, .int .u32 0, .int .u32 0, .int .i64 0, .int .i64 0, .int .i64 0, .slice none 0 0, .slice none 0 0], .int .i64 6]) ?_ rfl (parsT_err HP2.out rfl ?_)
    · simp [results, Try.results17, go_sem, z0, z1, z2, z3, z4, z5, z6, z7, z8]
    · exact below_s9 y3 (Nat.le_refl _) _ _ _ _ _ _ _ _ _
  | some os =>
    obtain ⟨Ao, co, rfl, o1, o2, o3, o4⟩ := h3.yes os rfl
    dsimp only
    have HP2 : Hid (prsT src dst l = (0, rdT l k os)) := Go.Lib.hid (by rw [HP.out, HR.out])
    obtain ⟨t, ht⟩ : ∃ t, rdT l k os = t := ⟨_, rfl⟩
    have HT := Go.Lib.hid ht
    have HO4 := Go.Lib.hid o4
    have HO3 := Go.Lib.hid o3
    have X3 := Go.Lib.hid x3
    clear ht h3 x2 x3 o3 o4 z0 z1 z2 z3 z4 z5 z6 z7 z8 zf
    go_wp2_with fail
    refine (tread_t (some ad) n c l w3 HN.out ((HB.out.below y3).more y3.size) hn2 (by omega) hnc hc63 k k20 kn os Ao os.length co rfl t HT.out).mono ?_
    rintro e w4 ⟨Ab, cb, rfl, h4⟩
    dsimp only
    have x4 : Below (w.heap.size + 1) (Zt w) w4 := X3.out.trans (h4.below.mono sz3)
    have y4 := Zt.below x4
    obtain ⟨⟨z0, z1, z2, z3, z4, z5, z6, z7, z8⟩, zf⟩ := zt_of x4
    have HG : Hid (GivT w (set9 w4 w.heap.size (.int .i64 t.sport) (.int .i64 t.dport) (.int .u32 t.seq) (.int .u32 t.ack) (.int .i64 t.flags) (.int .i64 t.win) (.int .i64 t.urg) (.slice Ao t.opts.length co) (.slice Ab t.body.length cb)) t Ao co Ab cb) := by
      have ht := HT.out
      refine Go.Lib.hid ⟨?_, below_s9 y4 (Nat.le_refl _) _ _ _ _ _ _ _ _ _⟩
      rw [size_s9]
      subst ht
      exact ⟨ad4_lo l 4, ad4_hi l 4, ad4_lo l 8, ad4_hi l 8, o1, o2, HO3.out, (((HO4.out.below h4.below).more h4.below.size).set9 (by omega) _ _ _ _ _ _ _ _ _).os, h4.len, h4.cap, h4.nil, (h4.bs.set9 (by omega) _ _ _ _ _ _ _ _ _).bs⟩
    clear h4 x4 y4
    go_wp2
    refine bodyPost_ret (v := .tuple #[.agg #[.int .i64 t.sport, .int .i64 t.dport, .int .u32 t.seq, .int .u32 t.ack, .int .i64 t.flags, .int .i64 t.win, .int .i64 t.urg, .slice Ao t.opts.length co, .slice Ab t.body.length cb], .int .i64 0]) ?_ rfl (parsT_ok (by rw [HP2.out, HT.out]) rfl HG.out)
    simp [results, Try.results17, go_sem, z0, z1, z2, z3, z4, z5, z6, z7, z8]
  
/-- Parse, whatever came. -/
theorem tparse (src dst : Int) (A : Option Addr) (n c : Nat) (l : List UInt8) (w : World) (hs : 0 ≤ src ∧ src ≤ 4294967295) (hd : 0 ≤ dst ∧ dst ≤ 4294967295) (hn : l.length = n) (h : Bs w w.heap.size A l) (hn2 : n ≤ 16777216) (hnc : n ≤ c) (hc63 : c ≤ 9223372036854775807) (hA : A = none → c = 0) :
    Calls Try.prog 17 #[.int .u32 src, .int .u32 dst, .slice A n c] w (ParsT w (prsT src dst l)) := by
  by_cases hM : tmE l = 0
  · by_cases hS : sumT 6 src dst l = 65535
    · exact tparseC src dst A n c l w hs hd hn h hn2 hnc hc63 hA hM hS
    · exact tparseB src dst A n c l w hs hd hn h hn2 hnc hc63 hM hS
  · exact tparseA src dst A n c l w hn h hn2 hM
end Go.Proofs.Ytghgemmbbedopaa
