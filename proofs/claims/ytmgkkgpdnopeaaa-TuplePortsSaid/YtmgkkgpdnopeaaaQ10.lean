/- Lemmas, several texts in one. -/
import Derived.Test.YtmgkkgpdnopeaaaQ09
import Derived.Laws.OwnMore
import Derived.Laws.CopyOwn
import Derived.Deep.AppendLies
import Derived.StillTailTactics
import Derived.Deep.Onto
import Derived.Deep.RegionHeld3
import Derived.Test.YtmgkkgpdnopeaaaQ07
import Derived.Test.YtmgkkgpdnopeaaaQ01
import Derived.Test.YtmgkkgpdnopeaaaQ02
/- Contracts of package tcp: options as bytes. -/
namespace Go.Proofs.Ytmgkkgpdnopeaaa
open Go.ChangeShapes Go.WideShapes Go.ChangeAt Go.RowKit
set_option linter.unusedVariables false
set_option linter.unusedSimpArgs false

theorem take_splice_mid {cur : List Value} {l o : List UInt8} (n k : Nat) (ht : cur.take n = l.map bv) (hk : k + o.length ≤ n) (hc : n ≤ cur.length) :
    (splice cur k (o.map bv)).take n = (l.take k ++ (o ++ l.drop (k + o.length))).map bv := by
  have hl : l.length = n := by have := congrArg List.length ht; simp at this; omega
  unfold splice
  have e1 : (cur.take k).length = k := by rw [List.length_take]; omega
  have e2 : (l.take k).map bv = cur.take k := by rw [List.map_take, ← ht, List.take_take, Nat.min_eq_left (by omega)]
  have e3 : (l.drop (k + o.length)).map bv = (cur.take n).drop (k + o.length) := by rw [List.map_drop, ← ht]
  rw [List.map_append, List.map_append, e2, e3, List.take_append, e1, List.take_of_length_le (by omega)]
  congr 1
  rw [List.take_append, List.length_map, List.take_of_length_le (by rw [List.length_map]; omega)]
  congr 1
  rw [List.drop_take, show n - k - o.length = n - (k + o.length) by omega]

/-- the bytes when the first k options are put: h20 the head ahead. -/
def optL (h20 : List UInt8) (os : List Op) (m k : Nat) : List UInt8 := h20 ++ (opsB (os.take k) ++ List.replicate (m - olen (os.take k)) 0)
theorem optL_length {h20 : List UInt8} {os : List Op} {m k : Nat} (h : h20.length = 20) (hm : olen os ≤ m) : (optL h20 os m k).length = 20 + m := by
  have := olen_take_le os k
  simp [optL, opsB_length, h]; omega
theorem opt_next {h20 : List UInt8} {os : List Op} {m k : Nat} (h : h20.length = 20) (hm : olen os ≤ m) (hk : k < os.length) (q : Nat) (hq : q = 20 + olen (os.take k)) (a b : UInt8) (ha : a = b8 os[k].kind) (hb : b = b8 (2 + os[k].data.length)) :
    ((((optL h20 os m k).set q a).set (q + 1) b).take (q + 2) ++ (os[k].data ++ (((optL h20 os m k).set q a).set (q + 1) b).drop (q + 2 + os[k].data.length))) = optL h20 os m (k + 1) := by
  have h1 := olen_take_succ os k hk
  have h2 := olen_take_le os (k + 1)
  unfold optL
  rw [opsB_take_succ os k hk, h1]
  generalize hX : opsB (os.take k) = X
  have hXl : X.length = olen (os.take k) := by rw [← hX, opsB_length]
  generalize os[k] = o at *
  obtain ⟨r, hr⟩ : ∃ r, m - olen (os.take k) = (2 + o.data.length) + r := ⟨m - olen (os.take k) - (2 + o.data.length), by omega⟩
  have hr2 : m - (olen (os.take k) + (2 + o.data.length)) = r := by omega
  rw [hr, hr2, ← List.append_assoc h20 X, ← List.append_assoc h20 (X ++ opB o), ← List.append_assoc h20 X (opB o)]
  have hY : (h20 ++ X).length = q := by simp [h, hXl, hq]
  generalize h20 ++ X = Y at *
  rw [show List.replicate (2 + o.data.length + r) (0 : UInt8) = 0 :: 0 :: (List.replicate o.data.length 0 ++ List.replicate r 0) by rw [List.replicate_append_replicate, show 2 + o.data.length + r = (o.data.length + r + 1) + 1 by omega]; rfl]
  subst hY
  rw [List.set_append_right _ _ (Nat.le_refl _), Nat.sub_self, List.set_cons_zero, List.set_append_right _ _ (by omega), show Y.length + 1 - Y.length = 1 by omega, List.set_cons_succ, List.set_cons_zero]
  rw [List.take_append, List.take_of_length_le (by omega), show Y.length + 2 - Y.length = 2 by omega]
  rw [List.drop_append, List.drop_of_length_le (by omega), show Y.length + 2 + o.data.length - Y.length = (o.data.length + 1) + 1 by omega, List.drop_succ_cons, List.drop_succ_cons]
  rw [List.drop_append, List.drop_of_length_le (by simp), List.length_replicate, Nat.sub_self, List.drop_zero]
  subst ha hb
  simp [opB]

set_option maxRecDepth 100000 in
set_option maxHeartbeats 8000000 in
theorem tputOpts (A0 : Option Addr) (A : Option Addr) (no co : Nat) (os : List Op) (B : Nat) (w : World) (g m c : Nat) (h20 : List UInt8) (hO : Own w B g (20 + m) (20 + c) (h20 ++ List.replicate m 0)) (h20l : h20.length = 20) (hn : os.length = no) (h : Os w B A os) (hB : B ≤ w.heap.size) (hm : olen os ≤ m) (hm2 : m ≤ 16777216) (hc : c ≤ 16777216) (hA : 0 < m → A0 = some ⟨g, 20, none⟩) (hk : ∀ o ∈ os, 0 ≤ o.kind ∧ o.kind ≤ 255 ∧ o.data.length ≤ 253) :
    Calls Try.prog 65 #[.slice A0 m c, .slice A no co] w fun e w' => e = .returned (.tuple #[]) ∧ Own w' B g (20 + m) (20 + c) (optL h20 os m os.length) ∧ Below B w w' := by
  subst hn
  obtain ⟨i0, hi, hz0, hz1, hz2⟩ := info_parts info_byte
  have hol : 2 * os.length ≤ olen os := by
    clear hO h hk hm
    induction os with
    | nil => simp
    | cons o r ih => simp only [olen, List.length_cons]; omega
  have hmc := hO.cap.1
  have HO : Hid (Own w B g (20 + m) (20 + c) (optL h20 os m 0)) := Go.Lib.hid (by simpa [optL, opsB, olen] using hO)
  have HA := Go.Lib.hid hA
  have HK := Go.Lib.hid hk
  have HM := Go.Lib.hid hm
  have HH := Go.Lib.hid h20l
  have hno : os.length ≤ 16777216 := by omega
  clear hO hA hk h20l hm hol
  go_enter Try.func65, Try.ntmps65
  go_wp2
  go_loopw [0, 9] (fun s i wx => ∃ (k : Nat) (A' : Option Addr) (r rc q : Nat), k ≤ os.length ∧ i = .int .i64 k ∧ s = .slice A' r rc ∧ Hid (r + olen (os.take k) = m ∧ rc + olen (os.take k) = c ∧ q = 20 + olen (os.take k)) ∧ Hid (0 < r → A' = some ⟨g, q, none⟩) ∧ Hid (Own wx B g (20 + m) (20 + c) (optL h20 os m k)) ∧ Below B w wx) (fun _ i _ => os.length - (intOf i).toNat)
  case atStart => exact ⟨0, A0, m, c, 20, by omega, rfl, rfl, Go.Lib.hid (by simp [olen]), HA, HO, Below.refl _ _⟩
  case round =>
    obtain ⟨k, A', r, rc, q, hk, rfl, rfl, HR, HA', HW, x1⟩ := hrel
    by_cases hlt : k < os.length
    · obtain ⟨ad, Ad, cd, rfl, hb, hc0, hc1, hbs, hdl, hcm, hnil⟩ := (h.below x1).at_ hlt
      have i1 : (0 : Int) ≤ (k : Int) := by omega
      have i2 : (k : Int) < (os.length : Int) := by omega
      obtain ⟨kk0, kk1, kk2⟩ := HK.out _ (List.getElem_mem hlt)
      have HN := Go.Lib.hid (fun a b => opt_next HH.out HM.out hlt q HR.out.2.2 a b)
      have hts := olen_take_succ os k hlt
      have htl := olen_take_le os (k + 1)
      obtain ⟨r1, r2, r3⟩ := HR.out
      have hm' := HM.out
      have hd2 : 2 + os[k].data.length ≤ r := by omega
      have hrr : r ≤ rc := by omega
      have hAq := HA'.out (by omega)
      subst hAq
      have HTS := Go.Lib.hid hts
      have HBS := Go.Lib.hid hbs
      have own := HW.out
      have hq : q + r = 20 + m := by omega
      have HR2 := Go.Lib.hid (And.intro r1 (And.intro r2 r3))
      have HOW := Go.Lib.hid own
      clear hts htl r1 r2 r3 hm' hbs HW HA' HR own
      generalize os[k].kind = kd at *
      have hdat : os[k].data.length = os[k].data.length := rfl
      generalize hdt : os[k].data = dat at *
      clear hdat hdt
      generalize hdd : dat.length = d at *
      have HDD := Go.Lib.hid hdd
      clear hdd
      have e1 := IntWalk.i64_in ((2 : Int) + (d : Int)) (by omega)
      have e2 := IntWalk.u8_in kd (by omega)
      have e3 := IntWalk.u8_in ((2 : Int) + (d : Int)) (by omega)
      go_upto_region 4 with fail
      have y1 : Below wr.heap.size wr (wr.alloc (.cells #[.int .i64 kd, .slice Ad d cd] 86)) := (Below.refl _ _).alloc (Nat.le_refl _) _
      have p0 : (wr.alloc (.cells #[.int .i64 kd, .slice Ad d cd] 86)).cell? ⟨wr.heap.size, 0, none⟩ = some (.int .i64 kd) := by simp [go_sem]
      have p1 : (wr.alloc (.cells #[.int .i64 kd, .slice Ad d cd] 86)).cell? ⟨wr.heap.size, 1, none⟩ = some (.slice Ad d cd) := by simp [go_sem]
      have own := HOW.out.below y1
      have hbr : B ≤ wr.heap.size := Nat.le_trans hB x1.size
      have hbs := HBS.out.below (y1.mono hbr)
      have hgq : g ≠ wr.heap.size := by have := HOW.out.lt.2; omega
      have x2 := x1.alloc hbr (.cells #[.int .i64 kd, .slice Ad d cd] 86)
      clear y1 HOW HBS hc0 hc1 x1 hbr
      generalize wr.alloc (.cells #[.int .i64 kd, .slice Ad d cd] 86) = V at *
      generalize wr.heap.size = bx at *
      have z0 := own.cellAt q (by omega)
      have z1 := own.cellAt (q + 1) (by omega)
      have f0 := own.frozenAt q
      have f1 := own.frozenAt (q + 1)
      obtain ⟨s1, s2⟩ := own.stored q kd kk0 kk1
      obtain ⟨s3, s4⟩ := s1.stored (q + 1) (2 + (d : Int)) (by omega) (by omega)
      have p2 : ((V.setCell ⟨g, q, none⟩ (.int .u8 kd)).setCell ⟨g, q + 1, none⟩ (.int .u8 (2 + (d : Int)))).cell? ⟨bx, 1, none⟩ = some (.slice Ad d cd) := by
        rw [World.cell?_setCell_other _ _ _ _ (fun h => by injection h with h _; omega), World.cell?_setCell_other _ _ _ _ (fun h => by injection h with h _; omega)]
        exact p1
      have S := Go.Lib.hid (And.intro s3 (And.intro (s2.trans s4) (hbs.below (s2.trans s4))))
      clear s1 s2 s3 s4 hbs own
      go_upto_region 5 with fail
      have own := S.out.1
      have x3 := x2.trans S.out.2.1
      have HBS := Go.Lib.hid S.out.2.2
      clear S x2 p0 p1 z0 z1 f0 f1
      generalize (V.setCell ⟨g, q, none⟩ (.int .u8 kd)).setCell ⟨g, q + 1, none⟩ (.int .u8 (2 + (d : Int))) = V2 at *
      have i5 : (2 : Int) ≤ (r : Int) := by omega
      have i6 : (2 : Int) ≤ (rc : Int) := by omega
      have HOW := Go.Lib.hid own
      clear own
      go_still_tail 4, (by kernel_rfl)
      change wpList _ _ _ _ _ V2.drew
      have own : Own V2.drew B g (20 + m) (20 + c) _ := HOW.out
      have hbs : Bs V2.drew B Ad dat := HBS.out
      have x4 : Below B w V2.drew := below_drew x3
      have p3 : V2.drew.cell? ⟨bx, 1, none⟩ = some (.slice Ad d cd) := p2
      clear HOW HBS x3 p2
      generalize V2.drew = V3 at *
      obtain ⟨cur, g1, g2, g3⟩ := own.block
      have hd' := HDD.out
      have HAA : 0 < d → (if rc = 2 then (some ⟨g, q, none⟩ : Option Addr) else some ⟨g, q + 2, none⟩) = some ⟨g, q + 2, none⟩ := fun h => if_neg (by omega)
      generalize (if rc = 2 then (some ⟨g, q, none⟩ : Option Addr) else some ⟨g, q + 2, none⟩) = A27 at *
      refine wpList_copy_splice rfl _ _ 23 23 rfl 5 Try.underlying23 (by rw [hi]; simp [hz1]) A27 Ad (r - 2) (rc - 2) d cd rfl rfl g (q + 2) cur 5 g1 (dat.map bv) ?_ ?_ ?_ (bv_one _) B V3 (Below.refl _ _) own.lt.1 ?_
      · show _ = min _ _; simp; omega
      · intro hpos
        have hpos' : 0 < dat.length := by simpa using hpos
        refine ⟨HAA (by omega), ?_⟩
        rcases hbs.rd with h | ⟨ad, e, _, h⟩
        · simp at h; rw [h] at hpos'; simp at hpos'
        · exact ⟨ad, e, h⟩
      · simp; omega
      intro w14 g4 b13
      have ht := take_splice_mid (o := dat) (20 + m) (q + 2) g3 (by omega) (by omega)
      rw [HDD.out, HN.out _ _ rfl rfl] at ht
      have own2 : Own w14 B g (20 + m) (20 + c) (optL h20 os m (k + 1)) := Own.of_block own.lt.1 g4.out (by rw [length_splice _ _ _ (by simp; omega)]; exact g2) own.cap.1 own.cap.2 (optL_length HH.out HM.out) ht
      have x5 := x4.trans b13
      have HOW := Go.Lib.hid own2
      clear own2 own x4 p3 g1 g2 g3 g4 b13 ht hbs HN HAA hd'
      clear cur
      have i7 : (2 : Int) + (d : Int) ≤ (r : Int) := by omega
      have i8 : (2 : Int) + (d : Int) ≤ (rc : Int) := by omega
      have i9 : (0 : Int) ≤ (2 : Int) + (d : Int) := by omega
      have i10 : ((2 : Int) + (d : Int)).toNat = 2 + d := by omega
      go_wp2
      go_roundw
      case rel =>
        have hA2 : 0 < r - (2 + d) → (if rc = 2 + d then (some ⟨g, q, none⟩ : Option Addr) else some ⟨g, q + (2 + d), none⟩) = some ⟨g, q + (2 + d), none⟩ := fun h => if_neg (by omega)
        obtain ⟨r1, r2, r3⟩ := HR2.out
        have ht := HTS.out
        exact ⟨k + 1, _, r - (2 + d), rc - (2 + d), q + (2 + d), by omega, by go_num, rfl, Go.Lib.hid ⟨by omega, by omega, by omega⟩, Go.Lib.hid hA2, HOW, x5⟩
      case measure => simp [intOf]; omega
    · obtain rfl : k = os.length := by omega
      go_wp2
      go_end0
      exact ⟨rfl, HW.out, x1⟩
end Go.Proofs.Ytmgkkgpdnopeaaa

/- The contract of package tcp's putHead. -/
namespace Go.Proofs.Ytmgkkgpdnopeaaa
open Go.ChangeShapes Go.WideShapes Go.ChangeAt Go.RowKit
set_option linter.unusedVariables false
set_option linter.unusedSimpArgs false

theorem sets_seg (n m : Nat) (hn : n = 20 + m) (x0 x1 x2 x3 x4 x5 x6 x7 x8 x9 x10 x11 x12 x13 x14 x15 x18 x19 : UInt8) :
    ((((((((((((((((((List.replicate n (0 : UInt8)).set 0 x0).set (0 + 1) x1).set 2 x2).set (2 + 1) x3).set 4 x4).set (4 + 1) x5).set (4 + 2) x6).set (4 + 2 + 1) x7).set 8 x8).set (8 + 1) x9).set (8 + 2) x10).set (8 + 2 + 1) x11).set 12 x12).set 13 x13).set 14 x14).set (14 + 1) x15).set 18 x18).set (18 + 1) x19
      = [x0, x1, x2, x3, x4, x5, x6, x7, x8, x9, x10, x11, x12, x13, x14, x15, 0, 0, x18, x19] ++ List.replicate m 0 := by
  subst hn
  rw [← List.replicate_append_replicate]
  generalize List.replicate m (0 : UInt8) = R
  have e : List.replicate 20 (0 : UInt8) ++ R = 0 :: 0 :: 0 :: 0 :: 0 :: 0 :: 0 :: 0 :: 0 :: 0 :: 0 :: 0 :: 0 :: 0 :: 0 :: 0 :: 0 :: 0 :: 0 :: 0 :: R := rfl
  rw [e]
  simp only [List.set_cons_succ, List.set_cons_zero, Nat.reduceAdd, List.cons_append, List.nil_append]

theorem tputOpts_n (A0 : Option Addr) (A : Option Addr) (no co : Nat) (os : List Op) (B : Nat) (w : World) (g m n c : Nat) (h20 : List UInt8) (hnm : n = 20 + m) (hc20 : 20 ≤ c) (hO : Own w B g n c (h20 ++ List.replicate m 0)) (h20l : h20.length = 20) (hn : os.length = no) (h : Os w B A os) (hB : B ≤ w.heap.size) (hm : olen os ≤ m) (hm2 : m ≤ 16777216) (hc : c ≤ 16777216) (hA : 0 < m → A0 = some ⟨g, 20, none⟩) (hk : ∀ o ∈ os, 0 ≤ o.kind ∧ o.kind ≤ 255 ∧ o.data.length ≤ 253) :
    Calls Try.prog 65 #[.slice A0 (n - 20) (c - 20), .slice A no co] w fun e w' => e = .returned (.tuple #[]) ∧ Own w' B g n c (optL h20 os m os.length) ∧ Below B w w' := by
  obtain ⟨c', rfl⟩ : ∃ c', c = 20 + c' := ⟨c - 20, by omega⟩
  subst hnm
  rw [Nat.add_sub_cancel_left, Nat.add_sub_cancel_left]
  exact tputOpts A0 A no co os B w g m c' h20 hO h20l hn h hB hm hm2 (by omega) hA hk
/-- the head of a segment whose check sum is not yet put. -/
def headT (t : Tc) : List UInt8 := seg20 t 0 ++ padB t.opts
theorem headT_length (t : Tc) : (headT t).length = thl t.opts := by simp [headT, seg20, padB_length, thl]; omega
theorem optL_all (t : Tc) (m : Nat) (hm : m = olen t.opts + padN (olen t.opts)) (h20 : List UInt8) (h : h20 = seg20 t 0) : optL h20 t.opts m t.opts.length = headT t := by
  unfold optL headT padB
  rw [List.take_length, h, hm, show olen t.opts + padN (olen t.opts) - olen t.opts = padN (olen t.opts) by omega]

set_option maxRecDepth 100000 in
set_option maxHeartbeats 8000000 in
theorem tputHead (t : Tc) (Ao : Option Addr) (co : Nat) (Ab : Option Addr) (cb : Nat) (w : World) (hM : MayT t) (hs0 : 0 ≤ t.seq) (hs1 : t.seq ≤ 4294967295) (hd0 : 0 ≤ t.ack) (hd1 : t.ack ≤ 4294967295)
    (hAo : Os w w.heap.size Ao t.opts) :
    Calls Try.prog 40 #[tcV t Ao co Ab cb] w fun e w' => ∃ g c, e = .returned (.slice (some ⟨g, 0, none⟩) (thl t.opts) c) ∧ Own w' w.heap.size g (thl t.opts) c (headT t) ∧ Below w.heap.size w w' := by
  obtain ⟨i0, hi, hz0, hz1, hz2⟩ := info_parts info_byte
  obtain ⟨s0, s1, d0, d1, w0, w1, u0, u1, f0, f1, ho, fit⟩ := hM
  have h40 := right_olen _ ho
  have hpad := padN_spec (olen t.opts)
  have hosm : Osm t.opts := by
    have h1 : ∀ o ∈ t.opts, o.data.length ≤ olen t.opts := by
      intro o ho
      obtain ⟨i, hi, rfl⟩ := List.getElem_of_mem ho
      have := olen_take_succ t.opts i hi
      have := olen_take_le t.opts (i + 1)
      omega
    have h2 : 2 * t.opts.length ≤ olen t.opts := by
      generalize t.opts = os
      induction os with
      | nil => simp
      | cons o r ih => simp only [olen, List.length_cons]; omega
    exact ⟨by omega, fun o ho => by have := h1 o ho; omega⟩
  obtain ⟨m, hm⟩ : ∃ m : Nat, m = olen t.opts + padN (olen t.opts) := ⟨_, rfl⟩
  obtain ⟨n, hn⟩ : ∃ n : Nat, n = 20 + m := ⟨_, rfl⟩
  have hnt : thl t.opts = n := by rw [hn, hm]; rfl
  obtain ⟨c, hc⟩ : ∃ c : Nat, c = n + t.body.length := ⟨_, rfl⟩
  have HM := Go.Lib.hid hm
  have HN := Go.Lib.hid hn
  have HC := Go.Lib.hid hc
  have HT := Go.Lib.hid hnt
  have HOM := Go.Lib.hid hosm
  have HK : Hid (∀ o ∈ t.opts, 0 ≤ o.kind ∧ o.kind ≤ 255 ∧ o.data.length ≤ 253) := Go.Lib.hid (by
    intro o hoo
    obtain ⟨i, hi, rfl⟩ := List.getElem_of_mem hoo
    have g := (goodAt_iff _ i hi).1 ((rightB_iff _).1 ho i hi)
    have := olen_take_succ t.opts i hi
    have := olen_take_le t.opts (i + 1)
    exact ⟨by have := g.k0; omega, g.k1, by omega⟩)
  have hn60 : n ≤ 60 := by omega
  have hn20 : 20 ≤ n := by omega
  have hb65 : t.body.length ≤ 65535 := by omega
  have hc65 : c ≤ 65535 := by rw [hc, ← hnt]; exact fit
  have hnc : n ≤ c := by omega
  have hc' : (n : Int) + (t.body.length : Int) = (c : Int) := by omega
  have hmk : ∀ W : World, (Instr.makeSlice 23 (.int .i64 (n : Int)) (.int .i64 (c : Int))).run Try.prog W = .ok (.slice (some ⟨W.heap.size, 0, none⟩) n c) (W.alloc (.cells (madeCells #[.int .u8 0] c) 5)) := by
    intro W
    have := run_make (P := Try.prog) W 23 5 i0 (.int .u8 0) Try.underlying23 hi hz0 .i64 .i64 n c (by omega) (by omega) (by rw [hz2]; omega) (by omega)
    simpa [hz1, Value.cells] using this
  have e1 := IntWalk.i64_in (n : Int) (by omega)
  have e2 : IntKind.i64.wrap ((n : Int) + (t.body.length : Int)) = (c : Int) := by rw [hc']; exact IntWalk.i64_in _ (by omega)
  have m0 := tcIs.made (w := w) (t := t) (A_opts := Ao) (c_opts := co) (A_body := Ab) (c_body := cb)
  have b0 : Below w.heap.size w (w.alloc (.cells #[.int .i64 t.sport, .int .i64 t.dport, .int .u32 t.seq, .int .u32 t.ack, .int .i64 t.flags, .int .i64 t.win, .int .i64 t.urg, .slice Ao t.opts.length co, .slice Ab t.body.length cb] 54)) := (Below.refl _ _).alloc (Nat.le_refl _) _
  have sz : w.heap.size + 1 ≤ (w.alloc (.cells #[.int .i64 t.sport, .int .i64 t.dport, .int .u32 t.seq, .int .u32 t.ack, .int .i64 t.flags, .int .i64 t.win, .int .i64 t.urg, .slice Ao t.opts.length co, .slice Ab t.body.length cb] 54)).heap.size := by simp
  clear hn hc hc' hm hnt ho fit hpad hosm h40
  go_enter Try.func40, Try.ntmps40
  go_upto_region 1 with fail
  generalize w.alloc (.cells #[.int .i64 t.sport, .int .i64 t.dport, .int .u32 t.seq, .int .u32 t.ack, .int .i64 t.flags, .int .i64 t.win, .int .i64 t.urg, .slice Ao t.opts.length co, .slice Ab t.body.length cb] 54) = W at *
  have M0 := Go.Lib.hid m0
  have K : ∀ Y, Below (w.heap.size + 1) W Y → Y.cell? ⟨w.heap.size, 0, none⟩ = some (.int .i64 t.sport) ∧ Y.cell? ⟨w.heap.size, 1, none⟩ = some (.int .i64 t.dport) ∧ Y.cell? ⟨w.heap.size, 2, none⟩ = some (.int .u32 t.seq) ∧ Y.cell? ⟨w.heap.size, 3, none⟩ = some (.int .u32 t.ack) ∧ Y.cell? ⟨w.heap.size, 4, none⟩ = some (.int .i64 t.flags) ∧ Y.cell? ⟨w.heap.size, 5, none⟩ = some (.int .i64 t.win) ∧ Y.cell? ⟨w.heap.size, 6, none⟩ = some (.int .i64 t.urg) ∧ Y.cell? ⟨w.heap.size, 7, none⟩ = some (.slice Ao t.opts.length co) ∧ Y.cell? ⟨w.heap.size, 8, none⟩ = some (.slice Ab t.body.length cb) := fun Y y => (M0.out.keep y (Nat.lt_succ_self _)).cells
  obtain ⟨c0, c1, c2, c3, c4, c5, c6, c7, c8⟩ := m0.cells
  clear m0
  go_wp2_with fail
  refine (theadLen t Ao co Ab cb W n HT.out w.heap.size (hAo.below b0) b0.size HOM.out).mono ?_
  rintro e w1 ⟨rfl, hb1⟩
  dsimp only
  have x1 : Below (w.heap.size + 1) W w1 := hb1.mono sz
  clear hb1 c0 c1 c2 c3 c4 c5 c6 c7 c8
  obtain ⟨_, _, _, _, _, _, _, _, k8⟩ := K _ x1
  go_upto_region 3 with fail
  have zz : w.heap.size + 1 ≤ w1.heap.size := Nat.le_trans sz x1.size
  have o1 := own_made w1 (w.heap.size + 1) n c zz hnc (by unfold maxLen; omega)
  have x2 := x1.trans ((Below.refl _ _).alloc zz (.cells (madeCells #[.int .u8 0] c) 5))
  clear x1 k8 hmk zz
  generalize w1.alloc (.cells (madeCells #[.int .u8 0] c) 5) = w2 at *
  generalize w1.heap.size = g at *
  obtain ⟨kk, _, _, _, _, _, _, _, _⟩ := K _ x2
  have y1 := IntWalk.u16_in t.sport (by omega)
  go_wp2_with fail
  refine (tputWord w2 (w.heap.size + 1) g n c _ o1 0 _ rfl (by omega) (by omega) t.sport (by omega) (by omega)).mono ?_
  rintro e w3 ⟨rfl, o2, b2⟩
  dsimp only
  have x3 := x2.trans b2
  clear y1 o1 x2 b2 kk
  obtain ⟨_, kk, _, _, _, _, _, _, _⟩ := K _ x3
  have y1 := IntWalk.u16_in t.dport (by omega)
  go_wp2_with fail
  refine (tputWord w3 (w.heap.size + 1) g n c _ o2 2 _ rfl (by omega) (by omega) t.dport (by omega) (by omega)).mono ?_
  rintro e w4 ⟨rfl, o3, b3⟩
  dsimp only
  have x4 := x3.trans b3
  clear y1 o2 x3 b3 kk
  obtain ⟨_, _, kk, _, _, _, _, _, _⟩ := K _ x4
  go_wp2_with fail
  refine (tputLong w4 (w.heap.size + 1) g n c _ o3 4 _ rfl (by omega) (by omega) t.seq (by omega) (by omega)).mono ?_
  rintro e w5 ⟨rfl, o4, b4⟩
  dsimp only
  have x5 := x4.trans b4
  clear o3 x4 b4 kk
  obtain ⟨_, _, _, kk, _, _, _, _, _⟩ := K _ x5
  go_wp2_with fail
  refine (tputLong w5 (w.heap.size + 1) g n c _ o4 8 _ rfl (by omega) (by omega) t.ack (by omega) (by omega)).mono ?_
  rintro e w6 ⟨rfl, o5, b5⟩
  dsimp only
  have x6 := x5.trans b5
  clear o4 x5 b5 kk
  go_upto_region 7 with fail
  have y1 := IntWalk.i64_in ((n : Int) / 4 * 16) (by omega)
  have y2 := IntWalk.u8_in ((n : Int) / 4 * 16) (by omega)
  have i0 : (12 : Int) < (n : Int) := by omega
  have c0 := o5.cellAt 12 (by omega)
  have z0 := o5.frozenAt 12
  go_upto_region 8 with fail
  obtain ⟨o6, b6⟩ := o5.stored 12 ((n : Int) / 4 * 16) (by omega) (by omega)
  have x7 := x6.trans b6
  clear y1 y2 i0 c0 z0 o5 x6 b6
  generalize w6.setCell ⟨g, 12, none⟩ (.int .u8 ((n : Int) / 4 * 16)) = w7 at *
  obtain ⟨_, _, _, _, kk, _, _, _, _⟩ := K _ x7
  have y1 := IntWalk.u8_in t.flags (by omega)
  have i0 : (13 : Int) < (n : Int) := by omega
  have c0 := o6.cellAt 13 (by omega)
  have z0 := o6.frozenAt 13
  go_upto_region 9 with fail
  obtain ⟨o7, b7⟩ := o6.stored 13 t.flags (by omega) (by omega)
  have x8 := x7.trans b7
  clear y1 i0 c0 z0 o6 x7 b7 kk
  generalize w7.setCell ⟨g, 13, none⟩ (.int .u8 t.flags) = w8 at *
  obtain ⟨_, _, _, _, _, kk, _, _, _⟩ := K _ x8
  have y1 := IntWalk.u16_in t.win (by omega)
  go_wp2_with fail
  refine (tputWord w8 (w.heap.size + 1) g n c _ o7 14 _ rfl (by omega) (by omega) t.win (by omega) (by omega)).mono ?_
  rintro e w9 ⟨rfl, o8, b8⟩
  dsimp only
  have x9 := x8.trans b8
  clear y1 o7 x8 b8 kk
  obtain ⟨_, _, _, _, _, _, kk, _, _⟩ := K _ x9
  have y1 := IntWalk.u16_in t.urg (by omega)
  go_wp2_with fail
  refine (tputWord w9 (w.heap.size + 1) g n c _ o8 18 _ rfl (by omega) (by omega) t.urg (by omega) (by omega)).mono ?_
  rintro e w10 ⟨rfl, o9, b9⟩
  dsimp only
  have x10 := x9.trans b9
  clear y1 o8 x9 b9 kk
  obtain ⟨_, _, _, _, _, _, _, k7, _⟩ := K _ x10
  have i20 : (20 : Int) ≤ (n : Int) := by omega
  have i21 : (20 : Int) ≤ (c : Int) := by omega
  go_upto_region 11 with fail
  go_still_tail 4, (by kernel_rfl)
  change wpList _ _ _ _ _ w10.drew
  have o10 : Own w10.drew (w.heap.size + 1) g n c _ := o9
  have x11 : Below (w.heap.size + 1) W w10.drew := below_drew x10
  clear o9 x10 k7
  generalize w10.drew = w11 at *
  rw [sets_seg n m HN.out] at o10
  have HA : 0 < m → (if c = 20 then (some ⟨g, 0, none⟩ : Option Addr) else some ⟨g, 20, none⟩) = some ⟨g, 20, none⟩ := fun h => if_neg (by have := HN.out; omega)
  generalize (if c = 20 then (some ⟨g, 0, none⟩ : Option Addr) else some ⟨g, 20, none⟩) = A54 at *
  have hos : Os w11 (w.heap.size + 1) Ao t.opts := (((hAo.below b0).more (Nat.le_succ _)).below x11)
  have H10 := Go.Lib.hid o10
  have HAA := Go.Lib.hid HA
  have HOS := Go.Lib.hid hos
  clear o10 HA hos
  go_wp2_with fail
  refine (tputOpts_n A54 Ao t.opts.length co t.opts (w.heap.size + 1) w11 g m n c _ HN.out (by omega) H10.out rfl rfl HOS.out (Nat.le_trans sz x11.size) (by have := HM.out; omega) (by have := HN.out; omega) (by omega) HAA.out HK.out).mono ?_
  rintro e w12 ⟨rfl, o12, b12⟩
  dsimp only
  have hhead : optL [b8 (t.sport / 256), b8 (t.sport % 256), b8 (t.dport / 256), b8 (t.dport % 256), b8 (t.seq / 65536 / 256),
        b8 (t.seq / 65536 % 256), b8 (t.seq % 65536 / 256), b8 (t.seq % 65536 % 256), b8 (t.ack / 65536 / 256),
        b8 (t.ack / 65536 % 256), b8 (t.ack % 65536 / 256), b8 (t.ack % 65536 % 256), b8 ((n : Int) / 4 * 16),
        b8 t.flags, b8 (t.win / 256), b8 (t.win % 256), 0, 0, b8 (t.urg / 256), b8 (t.urg % 256)] t.opts m t.opts.length = headT t := by
    refine optL_all t m HM.out _ ?_
    unfold seg20
    rw [HT.out]
    have v1 : t.seq / 65536 / 256 = t.seq / 16777216 := by omega
    have v2 : t.seq % 65536 / 256 = t.seq / 256 % 256 := by omega
    have v3 : t.seq % 65536 % 256 = t.seq % 256 := by omega
    have v4 : t.ack / 65536 / 256 = t.ack / 16777216 := by omega
    have v5 : t.ack % 65536 / 256 = t.ack / 256 % 256 := by omega
    have v6 : t.ack % 65536 % 256 = t.ack % 256 := by omega
    rw [v1, v2, v3, v4, v5, v6]
    rfl
  rw [hhead] at o12
  have HF : Hid (Own w12 w.heap.size g (thl t.opts) c (headT t)) := Go.Lib.hid (HT.out ▸ World.ownsRow.mono o12 (Nat.le_succ _))
  have xF := b0.trans ((x11.trans b12).mono (Nat.le_succ _))
  clear o12 x11 b12 H10
  go_wp2
  go_ret
  exact ⟨g, c, by rw [HT.out]; rfl, HF.out, xF⟩
end Go.Proofs.Ytmgkkgpdnopeaaa

/- The contract of package tcp's Put. -/
namespace Go.Proofs.Ytmgkkgpdnopeaaa
open Go.ChangeShapes Go.WideShapes Go.ChangeAt Go.RowKit
set_option linter.unusedVariables false
set_option linter.unusedSimpArgs false

theorem mayT_osm (t : Tc) (h : rightB t.opts = true) : Osm t.opts := by
  have h40 := right_olen _ h
  have h1 : ∀ o ∈ t.opts, o.data.length ≤ olen t.opts := by
    intro o ho
    obtain ⟨i, hi, rfl⟩ := List.getElem_of_mem ho
    have := olen_take_succ t.opts i hi
    have := olen_take_le t.opts (i + 1)
    omega
  have h2 : 2 * t.opts.length ≤ olen t.opts := by
    generalize t.opts = os
    induction os with
    | nil => simp
    | cons o r ih => simp only [olen, List.length_cons]; omega
  exact ⟨by omega, fun o ho => by have := h1 o ho; omega⟩

set_option maxRecDepth 100000 in
set_option maxHeartbeats 1000000 in
theorem tputNo (src dst : Int) (t : Tc) (Ao : Option Addr) (co : Nat) (Ab : Option Addr) (cb : Nat) (w : World) (hM : mayT t = false) (hI : TcIn w w.heap.size t Ao co Ab cb) (ho : Osm t.opts) (hbl : t.body.length ≤ 16777216) :
    Calls Try.prog 21 #[.int .u32 src, .int .u32 dst, tcV t Ao co Ab cb] w fun e w' => e = .returned (.tuple #[.slice none 0 0, .int .i64 1]) ∧ Below w.heap.size w w' := by
  have HM := Go.Lib.hid hM
  have HO := Go.Lib.hid ho
  have HI := Go.Lib.hid hI
  have b0 : Below w.heap.size w (w.alloc (.cells #[.int .i64 t.sport, .int .i64 t.dport, .int .u32 t.seq, .int .u32 t.ack, .int .i64 t.flags, .int .i64 t.win, .int .i64 t.urg, .slice Ao t.opts.length co, .slice Ab t.body.length cb] 54)) := (Below.refl _ _).alloc (Nat.le_refl _) _
  clear hM ho hI
  go_enter Try.func21, Try.ntmps21
  go_wp2_with fail
  refine (tmay t Ao co Ab cb _ false HM.out w.heap.size (HI.out.os.below b0) b0.size HO.out hbl).mono ?_
  rintro e w1 ⟨rfl, hb1⟩
  dsimp only
  go_wp2
  go_ret2
  exact ⟨rfl, b0.trans (hb1.mono b0.size)⟩

set_option maxRecDepth 100000 in
set_option maxHeartbeats 4000000 in
theorem tputYes (src dst : Int) (t : Tc) (Ao : Option Addr) (co : Nat) (Ab : Option Addr) (cb : Nat) (w : World) (hM : MayT t) (hs : 0 ≤ src ∧ src ≤ 4294967295) (hd : 0 ≤ dst ∧ dst ≤ 4294967295) (hI : TcIn w w.heap.size t Ao co Ab cb) (N : Nat) (hN : N = thl t.opts + t.body.length) :
    Calls Try.prog 21 #[.int .u32 src, .int .u32 dst, tcV t Ao co Ab cb] w fun e w' => ∃ g c, e = .returned (.tuple #[.slice (some ⟨g, 0, none⟩) N c, .int .i64 0]) ∧ Own w' w.heap.size g N c (putT src dst t) ∧ Below w.heap.size w w' := by
  obtain ⟨i0, hi, hz0, hz1, hz2⟩ := info_parts info_byte
  have HM := Go.Lib.hid ((mayT_iff t).2 hM)
  have HO := Go.Lib.hid (mayT_osm t hM.opts)
  have hfit := hM.fit
  have h20 : 20 ≤ thl t.opts := by unfold thl; omega
  obtain ⟨n, hn⟩ : ∃ n : Nat, thl t.opts = n := ⟨_, rfl⟩
  rw [hn] at hfit h20 hN
  have HT := Go.Lib.hid hn
  have HI := Go.Lib.hid hI
  have HS := Go.Lib.hid hM
  have m0 := tcIs.made (w := w) (t := t) (A_opts := Ao) (c_opts := co) (A_body := Ab) (c_body := cb)
  have b0 : Below w.heap.size w (w.alloc (.cells #[.int .i64 t.sport, .int .i64 t.dport, .int .u32 t.seq, .int .u32 t.ack, .int .i64 t.flags, .int .i64 t.win, .int .i64 t.urg, .slice Ao t.opts.length co, .slice Ab t.body.length cb] 54)) := (Below.refl _ _).alloc (Nat.le_refl _) _
  have sz : w.heap.size + 1 ≤ (w.alloc (.cells #[.int .i64 t.sport, .int .i64 t.dport, .int .u32 t.seq, .int .u32 t.ack, .int .i64 t.flags, .int .i64 t.win, .int .i64 t.urg, .slice Ao t.opts.length co, .slice Ab t.body.length cb] 54)).heap.size := by simp
  have HNN := Go.Lib.hid hN
  have hN2 : N ≤ 65535 := by omega
  have hN3 : n ≤ N := by omega
  clear hM hI hn hN
  go_enter Try.func21, Try.ntmps21
  go_upto_region 1 with fail
  generalize w.alloc (.cells #[.int .i64 t.sport, .int .i64 t.dport, .int .u32 t.seq, .int .u32 t.ack, .int .i64 t.flags, .int .i64 t.win, .int .i64 t.urg, .slice Ao t.opts.length co, .slice Ab t.body.length cb] 54) = W at *
  have M0 := Go.Lib.hid m0
  have K : ∀ Y, Below (w.heap.size + 1) W Y → Y.cell? ⟨w.heap.size, 0, none⟩ = some (.int .i64 t.sport) ∧ Y.cell? ⟨w.heap.size, 1, none⟩ = some (.int .i64 t.dport) ∧ Y.cell? ⟨w.heap.size, 2, none⟩ = some (.int .u32 t.seq) ∧ Y.cell? ⟨w.heap.size, 3, none⟩ = some (.int .u32 t.ack) ∧ Y.cell? ⟨w.heap.size, 4, none⟩ = some (.int .i64 t.flags) ∧ Y.cell? ⟨w.heap.size, 5, none⟩ = some (.int .i64 t.win) ∧ Y.cell? ⟨w.heap.size, 6, none⟩ = some (.int .i64 t.urg) ∧ Y.cell? ⟨w.heap.size, 7, none⟩ = some (.slice Ao t.opts.length co) ∧ Y.cell? ⟨w.heap.size, 8, none⟩ = some (.slice Ab t.body.length cb) ∧ Below (w.heap.size + 1) W Y := fun Y y => by
    obtain ⟨c0, c1, c2, c3, c4, c5, c6, c7, c8⟩ := (M0.out.keep y (Nat.lt_succ_self _)).cells
    exact ⟨c0, c1, c2, c3, c4, c5, c6, c7, c8, y⟩
  obtain ⟨c0, c1, c2, c3, c4, c5, c6, c7, c8⟩ := m0.cells
  clear m0
  go_wp2_with fail
  refine (tmay t Ao co Ab cb W true HM.out w.heap.size (HI.out.os.below b0) b0.size HO.out (by omega)).mono ?_
  rintro e w1 ⟨rfl, hb1⟩
  dsimp only
  have x1 : Below (w.heap.size + 1) W w1 := hb1.mono sz
  clear hb1 c0 c1 c2 c3 c4 c5 c6 c7 c8
  go_upto_region 3 with fail
  go_region_held3 (fun Y => Y.cell? ⟨w.heap.size, 0, none⟩ = some (.int .i64 t.sport) ∧ Y.cell? ⟨w.heap.size, 1, none⟩ = some (.int .i64 t.dport) ∧ Y.cell? ⟨w.heap.size, 2, none⟩ = some (.int .u32 t.seq) ∧ Y.cell? ⟨w.heap.size, 3, none⟩ = some (.int .u32 t.ack) ∧ Y.cell? ⟨w.heap.size, 4, none⟩ = some (.int .i64 t.flags) ∧ Y.cell? ⟨w.heap.size, 5, none⟩ = some (.int .i64 t.win) ∧ Y.cell? ⟨w.heap.size, 6, none⟩ = some (.int .i64 t.urg) ∧ Y.cell? ⟨w.heap.size, 7, none⟩ = some (.slice Ao t.opts.length co) ∧ Y.cell? ⟨w.heap.size, 8, none⟩ = some (.slice Ab t.body.length cb) ∧ Below (w.heap.size + 1) W Y)
    (first
      | exact K _ (below_drew x1)
      | exact K _ (hx2.trans ((Below.refl _ _).grown hg (Nat.le_trans sz hx2.size) hblk))
      | exact K _ (hx.trans (hcall.mono (Nat.le_trans sz hx.size))))
    (first
      | (go_at_call 40; obtain ⟨_, _, _, _, _, _, _, _, _, hx⟩ := ‹_ ∧ _›; refine (tputHead t Ao co Ab cb _ HS.out HI.out.q0 HI.out.q1 HI.out.a0 HI.out.a1 (((HI.out.os.below b0).below (hx.mono (Nat.le_succ _))).more (Nat.le_trans b0.size hx.size))).mono ?_; rw [HT.out]; rintro e w2 ⟨g, c, rfl, hown, hcall⟩)
      | (obtain ⟨_, _, _, _, _, _, _, _, _, hx2⟩ := ‹_ ∧ _›; have hblk : ∀ k, (Value.slice (some ⟨g, 0, none⟩) n c).ownBlock = some k → w.heap.size + 1 ≤ k := (fun k hk => by have := hown.lt.1; have := hx.size; simp [Value.ownBlock] at hk; omega); refine step_append_rd rfl _ _ 23 rfl (w.heap.size + 1) 5 i0 (.int .u8 0) 1 Try.underlying23 hi hz0 hz1 hz2 rfl _ _ _ rfl (World.ownsRow.mono hown (Nat.le_trans sz hx.size)) w.heap.size Ab _ cb (t.body.map bv) rfl (by simp) HI.out.bnil ((HI.out.bs.below b0).below (hx2.mono (Nat.le_succ _))).rd (bv_one _) (by unfold maxLen; omega) (by omega) (Nat.le_trans sz hx2.size) ?_; intro v3 w3 hown3 hg hat))
  all_goals
    obtain ⟨_, _, _, _, _, _, _, _, _, hx3⟩ := ‹_ ∧ _›
    have hNE := HNN.out
    rw [← hNE] at hown3
    obtain ⟨g', c', rfl, _, _, _, _⟩ := own_form hown3 (by omega)
    have HO3 : Own w3 (w.heap.size + 1) g' N c' (segB t 0) := by
      have e : segB t 0 = headT t ++ t.body := by unfold segB headT; rw [List.append_assoc]
      unfold Own
      rw [e, List.map_append]
      exact hown3
    clear hown3 hown hcall hx hx2 hg hat hblk hNE
    have H3 := Go.Lib.hid HO3
    have hcap := HO3.cap
    unfold maxLen at hcap
    obtain ⟨hcap1, hcap2⟩ := hcap
    clear HO3
    obtain ⟨s, hsum⟩ : ∃ s : Int, sumT 6 src dst (segB t 0) = s := ⟨_, rfl⟩
    have y0 := sumT_lo 6 src dst (segB t 0)
    have y1 := sumT_hi 6 src dst (segB t 0)
    rw [hsum] at y0 y1
    have HSM := Go.Lib.hid hsum
    clear hsum
    go_wp2_with fail
    refine (tsum src dst (some ⟨g', 0, none⟩) N c' (segB t 0) w3.heap.size _ s HSM.out hs hd H3.out.len H3.out.bs (by omega) hcap1 (by omega)).mono ?_
    rintro e w4 ⟨rfl, m4, rfl⟩
    dsimp only
    have H4 : Hid (Own (w3.drewN m4) (w.heap.size + 1) g' N c' (segB t 0)) := Go.Lib.hid H3.out
    have hx4 : Below (w.heap.size + 1) W (w3.drewN m4) := below_dn hx3 m4
    clear H3 hx3
    generalize w3.drewN m4 = w4 at *
    have z1 := u16_not s y0 y1
    have z2 : IntKind.u16.signed = false := rfl
    have z3 : IntKind.u16.max = 65535 := rfl
    go_wp2_with fail
    refine (tputWord w4 (w.heap.size + 1) g' N c' _ H4.out 16 _ rfl (by omega) (by omega) (65535 - s) (by omega) (by omega)).mono ?_
    rintro e w5 ⟨rfl, o5, b5⟩
    dsimp only
    rw [seg_set t (65535 - s)] at o5
    have hF : segB t (65535 - s) = putT src dst t := by unfold putT chkT; rw [HSM.out]
    rw [hF] at o5
    have H5 := Go.Lib.hid (World.ownsRow.mono o5 (Nat.le_succ _))
    have hx5 := b0.trans ((hx4.trans b5).mono (Nat.le_succ _))
    clear o5 hx4 b5 H4 z1 z2 z3
    go_wp2
    go_ret2
    exact ⟨g', c', rfl, H5.out, hx5⟩
/-- what the document's Put has, package tcp's has. -/
theorem tputU (src dst : Int) (t : Tc) (Ao : Option Addr) (co : Nat) (Ab : Option Addr) (cb : Nat) (L : List UInt8) (n : Nat) (r : Int) (hL : PutTL src dst t L n r) (w : World) (hs : 0 ≤ src ∧ src ≤ 4294967295) (hd : 0 ≤ dst ∧ dst ≤ 4294967295)
    (hI : TcIn w w.heap.size t Ao co Ab cb) (ho : Osm t.opts) (hbl : t.body.length ≤ 16777216) :
    Calls Try.prog 21 #[.int .u32 src, .int .u32 dst, tcV t Ao co Ab cb] w (PutPost L n r w) := by
  by_cases hm : mayT t = true
  · have M := (mayT_iff t).1 hm
    obtain ⟨rfl, hn, rfl⟩ := hL.yes M
    refine (tputYes src dst t Ao co Ab cb w M hs hd hI n hn).mono ?_
    rintro e w' ⟨g, c, rfl, ho, hb⟩
    exact PutPost.of _ c rfl ho.bs hb
  · have hm' : mayT t = false := by simpa using hm
    obtain ⟨rfl, rfl, rfl⟩ := hL.no (fun M => hm ((mayT_iff t).2 M))
    refine (tputNo src dst t Ao co Ab cb w hm' hI ho hbl).mono ?_
    rintro e w' ⟨rfl, hb⟩
    exact PutPost.of _ 0 rfl Bs.nil_ hb
end Go.Proofs.Ytmgkkgpdnopeaaa

/- A row of options of a call's own: it grows by one option. -/
namespace Go.Proofs.Ytmgkkgpdnopeaaa
open Go.ChangeShapes Go.WideShapes Go.ChangeAt Go.RowKit
set_option linter.unusedVariables false

theorem info_opt : (Try.prog.info? 86).map (fun i => (i.zero, i.size, i.bytes)) = some (some (.agg #[.int .i64 0, .slice none 0 0]), 2, 32) := by kernel_rfl

/-- bytes that lie from block lo on, below block hi. -/
def BsF (w : World) (lo hi : Nat) (A : Option Addr) (l : List UInt8) : Prop :=
  l = [] ∨ ∃ ad, A = some ad ∧ lo ≤ ad.block ∧ ad.block < hi ∧ ∀ (j : Nat) (b : UInt8), l[j]? = some b → w.cell? (ad.add j) = some (.int .u8 (b.toNat : Int))
theorem BsF.bs {w : World} {lo hi : Nat} {A : Option Addr} {l : List UInt8} (h : BsF w lo hi A l) : Bs w hi A l := by
  rcases h with h | ⟨ad, e, _, h2, h3⟩
  · exact .inl h
  · exact .inr ⟨ad, e, h2, h3⟩
theorem BsF.of {w : World} {lo hi : Nat} {A : Option Addr} {l : List UInt8} (h : Bs w hi A l) (hl : l ≠ [] → ∀ ad, A = some ad → lo ≤ ad.block) : BsF w lo hi A l := by
  by_cases e : l = []
  · exact .inl e
  rcases h with h | ⟨ad, rfl, h2, h3⟩
  · exact .inl h
  · exact .inr ⟨ad, rfl, hl e ad rfl, h2, h3⟩
theorem BsF.below {w w' : World} {lo hi : Nat} {A : Option Addr} {l : List UInt8} (h : BsF w lo hi A l) (hb : Below hi w w') : BsF w' lo hi A l := by
  rcases h with h | ⟨ad, e, h1, h2, h3⟩
  · exact .inl h
  · exact .inr ⟨ad, e, h1, h2, fun j b hj => (hb.cell (by rw [block_add]; exact h2)).trans (h3 j b hj)⟩
theorem BsF.set {w : World} {lo hi : Nat} {A : Option Addr} {l : List UInt8} (h : BsF w lo hi A l) {g : Nat} (hg : g < lo) (k : Nat) (u : Value) : BsF (w.setCell ⟨g, k, none⟩ u) lo hi A l := by
  rcases h with h | ⟨ad, e, h1, h2, h3⟩
  · exact .inl h
  · refine .inr ⟨ad, e, h1, h2, fun j b hj => ?_⟩
    rw [World.cell?_setCell_other w _ (ad.add j) u (fun e => by have := congrArg Addr.block e; rw [block_add] at this; simp at this; omega)]
    exact h3 j b hj
/-- options that lie from block lo on, below block hi. -/
def OsF (w : World) (lo hi : Nat) (A : Option Addr) (os : List Op) : Prop :=
  os = [] ∨ ∃ ad, A = some ad ∧ lo ≤ ad.block ∧ ad.block < hi ∧ ∀ (j : Nat) (o : Op), os[j]? = some o → w.cell? (ad.add (j * 2)) = some (.int .i64 o.kind) ∧
    ∃ Ad cd, w.cell? (ad.add (j * 2 + 1)) = some (.slice Ad o.data.length cd) ∧ BsF w lo hi Ad o.data ∧ o.data.length ≤ cd ∧ cd ≤ 9223372036854775807 ∧ (Ad = none → cd = 0)
theorem OsF.os {w : World} {lo hi : Nat} {A : Option Addr} {os : List Op} (h : OsF w lo hi A os) : Os w hi A os := by
  rcases h with h | ⟨ad, e, _, h2, h3⟩
  · exact .inl h
  · refine .inr ⟨ad, e, h2, fun j o hj => ?_⟩
    obtain ⟨a, Ad, cd, b, c, d⟩ := h3 j o hj
    exact ⟨a, Ad, cd, b, c.bs, d⟩
theorem OsF.more {w : World} {lo hi hi' : Nat} {A : Option Addr} {os : List Op} (h : OsF w lo hi A os) (hh : hi ≤ hi') : OsF w lo hi' A os := by
  rcases h with h | ⟨ad, e, h1, h2, h3⟩
  · exact .inl h
  · refine .inr ⟨ad, e, h1, by omega, fun j o hj => ?_⟩
    obtain ⟨a, Ad, cd, b, c, d⟩ := h3 j o hj
    refine ⟨a, Ad, cd, b, ?_, d⟩
    rcases c with c | ⟨ad, e, c1, c2, c3⟩
    · exact .inl c
    · exact .inr ⟨ad, e, c1, by omega, c3⟩
theorem OsF.below {w w' : World} {lo hi : Nat} {A : Option Addr} {os : List Op} (h : OsF w lo hi A os) (hb : Below hi w w') : OsF w' lo hi A os := by
  rcases h with h | ⟨ad, e, h1, h2, h3⟩
  · exact .inl h
  · refine .inr ⟨ad, e, h1, h2, fun j o hj => ?_⟩
    obtain ⟨a, Ad, cd, b, c, d⟩ := h3 j o hj
    exact ⟨(hb.cell (by rw [block_add]; exact h2)).trans a, Ad, cd, (hb.cell (by rw [block_add]; exact h2)).trans b, c.below hb, d⟩
theorem OsF.set {w : World} {lo hi : Nat} {A : Option Addr} {os : List Op} (h : OsF w lo hi A os) {g : Nat} (hg : g < lo) (k : Nat) (u : Value) : OsF (w.setCell ⟨g, k, none⟩ u) lo hi A os := by
  rcases h with h | ⟨ad, e, h1, h2, h3⟩
  · exact .inl h
  · refine .inr ⟨ad, e, h1, h2, fun j o hj => ?_⟩
    obtain ⟨a, Ad, cd, b, c, d⟩ := h3 j o hj
    have hne : ∀ i, (⟨g, k, none⟩ : Addr) ≠ ad.add i := fun i e => by have := congrArg Addr.block e; rw [block_add] at this; simp at this; omega
    exact ⟨by rw [World.cell?_setCell_other w _ _ u (hne _)]; exact a, Ad, cd, by rw [World.cell?_setCell_other w _ _ u (hne _)]; exact b, c.set hg k u, d⟩
/-- option number j of a row of cells. -/
structure OCell (w : World) (base : Nat) (v : Value) (xs : List Value) (j : Nat) (o : Op) : Prop where
  kind : xs[j * 2]? = some (.int .i64 o.kind)
  data : ∃ Ad cd, xs[j * 2 + 1]? = some (.slice Ad o.data.length cd) ∧ Bs w w.heap.size Ad o.data ∧ o.data.length ≤ cd ∧ cd ≤ 9223372036854775807 ∧ (Ad = none → cd = 0) ∧ (o.data ≠ [] → ∀ ad, Ad = some ad → v.ownBlock ≠ some ad.block ∧ base ≤ ad.block)
/-- a row of options of the call's own, nil or not. -/
structure ORow (w : World) (base : Nat) (v : Value) (os : List Op) : Prop where
  ex : ∃ xs, w.ownsRow base 86 2 v os.length xs ∧ ∀ j o, os[j]? = some o → OCell w base v xs j o
section
variable {w w' : World} {base B : Nat} {v : Value} {os : List Op}
theorem ORow.nil_ : ORow w base (.slice none 0 0) [] := ⟨[], World.ownsRow_nil _ _ _ _, fun j o h => by simp at h⟩
theorem ownsRow_keep {e : TypeId} {s n : Nat} {xs : List Value} (h : w.ownsRow base e s v n xs) (hb : Below w.heap.size w w') : w'.ownsRow base e s v n xs := by
  refine ⟨h.1, ?_⟩
  rcases h.2 with h | ⟨g', cap, cur, hv, hba, hh, hn, hm, hs, ht⟩
  · exact .inl h
  · refine .inr ⟨g', cap, cur, hv, hba, ?_, hn, hm, hs, ht⟩
    rw [hb.block g' (Array.getElem?_eq_some_iff.1 hh).1]; exact hh
theorem ORow.keep (h : ORow w base v os) (hb : Below w.heap.size w w') : ORow w' base v os := by
  obtain ⟨xs, h1, h2⟩ := h.ex
  refine ⟨xs, ownsRow_keep h1 hb, fun j o hj => ?_⟩
  obtain ⟨k, Ad, cd, d1, d2, d3, d4, d5, d6⟩ := h2 j o hj
  exact ⟨k, Ad, cd, d1, (d2.below hb).more hb.size, d3, d4, d5, d6⟩
theorem ORow.lt (h : ORow w base v os) : ∀ q, v.ownBlock = some q → base ≤ q ∧ q < w.heap.size := by
  obtain ⟨xs, h1, _⟩ := h.ex
  exact fun q hq => World.ownsRow.lt h1 q hq
theorem ORow.mono {base' : Nat} (h : ORow w base v os) (hb : base' ≤ base) : ORow w base' v os := by
  obtain ⟨xs, h1, h2⟩ := h.ex
  refine ⟨xs, World.ownsRow.mono h1 hb, fun j o hj => ?_⟩
  obtain ⟨k, Ad, cd, d1, d2, d3, d4, d5, d6⟩ := h2 j o hj
  exact ⟨k, Ad, cd, d1, d2, d3, d4, d5, fun hn ad e => ⟨(d6 hn ad e).1, Nat.le_trans hb (d6 hn ad e).2⟩⟩
theorem ORow.form (h : ORow w base v os) : ∃ A c, v = .slice A os.length c ∧ os.length ≤ c ∧ c ≤ 9223372036854775807 ∧ (A = none → c = 0) ∧ OsF w base w.heap.size A os := by
  obtain ⟨xs, h1, h2⟩ := h.ex
  have h0 := h1
  rcases h1.2 with ⟨rfl, hz⟩ | ⟨g, cap, cur, rfl, hb, hh, hn, hm, hs, ht⟩
  · have hl : os = [] := List.eq_nil_of_length_eq_zero hz
    subst hl
    exact ⟨none, 0, rfl, Nat.le_refl _, by omega, fun _ => rfl, .inl rfl⟩
  · unfold maxLen at hm
    refine ⟨some ⟨g, 0, none⟩, cap, rfl, hn, by omega, (fun h => by cases h), .inr ⟨_, rfl, (h0.lt g rfl).1, (h0.lt g rfl).2, fun j o hj => ?_⟩⟩
    obtain ⟨k, Ad, cd, d1, d2, d3, d4, d5, d6⟩ := h2 j o hj
    refine ⟨(h0.cells rfl) (j * 2) _ k, Ad, cd, (h0.cells rfl) (j * 2 + 1) _ d1, BsF.of d2 (fun hn ad e => (d6 hn ad e).2), d3, d4, d5⟩
end
theorem ORow.drewN {w : World} {base : Nat} {v : Value} {os : List Op} (h : ORow w base v os) (n : Nat) : ORow (w.drewN n) base v os := h.keep (below_dn (Below.refl _ _) n)
/-- bytes stay where a row elsewhere has grown. -/
theorem Bs.grown {w w' : World} {A : Option Addr} {l : List UInt8} {r : Option Nat} (h : Bs w w.heap.size A l) (hg : w.grownBy w' r) (hr : l ≠ [] → ∀ ad, A = some ad → r ≠ some ad.block) : Bs w' w'.heap.size A l := by
  by_cases hl : l = []
  · exact .inl hl
  rcases h with h | ⟨ad, rfl, hlt, hc⟩
  · exact .inl h
  · refine .inr ⟨ad, rfl, Nat.lt_of_lt_of_le hlt hg.size, fun j b hj => ?_⟩
    have := hc j b hj
    have hb := hg.block ad.block hlt (fun e => hr hl ad rfl e.symm)
    rw [← this]
    unfold World.cell?
    rw [block_add, hb]

theorem oRow_more {w w' : World} {base : Nat} {v v' : Value} {os : List Op} {xs : List Value} (hown : w.ownsRow base 86 2 v os.length xs) (hx : ∀ j o, os[j]? = some o → OCell w base v xs j o) {kd : Int} {Ad : Option Addr} {d cd : Nat} {dat : List UInt8} (hd : dat.length = d) (hbs : Bs w w.heap.size Ad dat) (h1 : d ≤ cd) (h2 : cd ≤ 9223372036854775807) (h3 : Ad = none → cd = 0) (h4 : dat ≠ [] → ∀ ad, Ad = some ad → v.ownBlock ≠ some ad.block ∧ base ≤ ad.block)
    (hn : w'.ownsRow base 86 2 v' (os.length + 1) (xs ++ [.int .i64 kd, .slice Ad d cd])) (hg : w.grownBy w' v.ownBlock) (hat : v'.ownBlock = v.ownBlock ∨ v'.ownBlock = some w.heap.size) : ORow w' base v' (os ++ [⟨kd, dat⟩]) := by
  subst hd
  have hxl : xs.length = os.length * 2 := hown.1
  refine ⟨xs ++ [.int .i64 kd, .slice Ad dat.length cd], by rw [List.length_append]; exact hn, fun j o hj => ?_⟩
  have far : ∀ (A : Option Addr) (l : List UInt8), Bs w w.heap.size A l → (l ≠ [] → ∀ ad, A = some ad → v.ownBlock ≠ some ad.block ∧ base ≤ ad.block) → (l ≠ [] → ∀ ad, A = some ad → v'.ownBlock ≠ some ad.block ∧ base ≤ ad.block) := by
    intro A l hb hf hne ad he
    refine ⟨?_, (hf hne ad he).2⟩
    rcases hat with e | e
    · rw [e]; exact (hf hne ad he).1
    · rw [e]
      rcases hb with hb | ⟨ad', e', hlt, _⟩
      · exact absurd hb hne
      · rw [he] at e'; cases e'; intro h; injection h with h; omega
  by_cases hlt : j < os.length
  · rw [List.getElem?_append_left hlt] at hj
    obtain ⟨k, A, c, d1, d2, d3, d4, d5, d6⟩ := hx j o hj
    exact ⟨by rw [List.getElem?_append_left (by omega)]; exact k, A, c, by rw [List.getElem?_append_left (by omega)]; exact d1, d2.grown hg (fun hn ad e => (d6 hn ad e).1), d3, d4, d5, far A o.data d2 d6⟩
  · have e : j = os.length := by
      have := (List.getElem?_eq_some_iff.1 hj).1
      simp at this; omega
    subst e
    rw [List.getElem?_append_right (Nat.le_refl _), Nat.sub_self] at hj
    simp at hj
    subst hj
    exact ⟨by rw [List.getElem?_append_right (by omega), hxl, Nat.sub_self]; rfl, Ad, cd, by rw [List.getElem?_append_right (by omega), hxl, show os.length * 2 + 1 - os.length * 2 = 1 by omega]; rfl, hbs.grown hg (fun hn ad e => (h4 hn ad e).1), h1, h2, h3, far Ad dat hbs h4⟩

/-- append of one option that lies in a block of its own, in a plain region and in one that draws. -/
theorem opS {w : World} {ops : Array Oper} {o : Oper} {a : Act} {K : Act → World → Prop} {Q : Exit → Act → World → Prop} {E : Prop} (hgd : o.guard = none) (s x : Operand)
    (ho : o.op = .call { callee := .builtin .append, args := #[s, x], argTypes := #[52, 52] })
    (base : Nat) (v : Value) (os : List Op) (hs : a.eval s = v) (hown : ORow w base v os)
    (g0 : Nat) (c0 : Nat) (hx : a.eval x = .slice (some ⟨g0, 0, none⟩) 1 c0) (kd : Int) (Ad : Option Addr) (d cd : Nat) (dat : List UInt8)
    (q0 : w.cell? ⟨g0, 0, none⟩ = some (.int .i64 kd)) (q1 : w.cell? ⟨g0, 1, none⟩ = some (.slice Ad d cd)) (hd : dat.length = d) (hbs : Bs w w.heap.size Ad dat) (h1 : d ≤ cd) (h2 : cd ≤ 9223372036854775807) (h3 : Ad = none → cd = 0) (h4 : dat ≠ [] → ∀ ad, Ad = some ad → v.ownBlock ≠ some ad.block ∧ base ≤ ad.block)
    (hl : os.length ≤ 1048576) (hbase : base ≤ w.heap.size)
    (h : ∀ v' w', ORow w' base v' (os ++ [⟨kd, dat⟩]) → Below base w w' → K (a.put o.dst v') w') : if Region.wanted o (yielded ops a.tmps) = true then Oper.wp Try.prog o a w K Q else E := by
  have hw : Region.wanted o (yielded ops a.tmps) = true := by simp [Region.wanted, hgd]
  rw [if_pos hw]
  obtain ⟨i0, hi, hz0, hz1, hz2⟩ := info_parts info_opt
  obtain ⟨xs, hr, hxs⟩ := hown.ex
  obtain ⟨v', w', hrun, n1, n2, _, n4⟩ := run_append_own_at (P := Try.prog) w base 52 o.type 86 i0 _ 2 32 Try.underlying52 hi hz0 hz1 hz2 rfl (by omega) v os.length xs hr ⟨g0, 0, none⟩ 1 c0 [.int .i64 kd, .slice Ad d cd] rfl (by
    intro j u hj
    match j, hj with
    | 0, hj => simp at hj; subst hj; exact q0
    | 1, hj => simp at hj; subst hj; exact q1) (by intro u hu; simp at hu; rcases hu with rfl | rfl <;> rfl) (by unfold maxLen; omega) (by omega) hbase
  unfold Oper.wp execOp
  simp only [ho, resolve, invoke, builtin, Sem.run_bind, Sem.run_pure, Result.andThen_ok, List.map_toArray, List.map_cons, List.map_nil, hs, hx, hrun]
  exact h v' w' (oRow_more hr hxs hd hbs h1 h2 h3 h4 n1 n2 n4) (Below.grown (Below.refl _ _) n2 hbase (fun q hq => (ORow.lt hown q hq).1))
theorem opA {w : World} {ops : Array Oper} {rest : List Oper} {o : Oper} {a : Act} {Q : Exit → Act → World → Prop} (hgd : o.guard = none) (s x : Operand)
    (ho : o.op = .call { callee := .builtin .append, args := #[s, x], argTypes := #[52, 52] })
    (base : Nat) (v : Value) (os : List Op) (hs : a.eval s = v) (hown : ORow w base v os)
    (g0 : Nat) (c0 : Nat) (hx : a.eval x = .slice (some ⟨g0, 0, none⟩) 1 c0) (kd : Int) (Ad : Option Addr) (d cd : Nat) (dat : List UInt8)
    (q0 : w.cell? ⟨g0, 0, none⟩ = some (.int .i64 kd)) (q1 : w.cell? ⟨g0, 1, none⟩ = some (.slice Ad d cd)) (hd : dat.length = d) (hbs : Bs w w.heap.size Ad dat) (h1 : d ≤ cd) (h2 : cd ≤ 9223372036854775807) (h3 : Ad = none → cd = 0) (h4 : dat ≠ [] → ∀ ad, Ad = some ad → v.ownBlock ≠ some ad.block ∧ base ≤ ad.block)
    (hl : os.length ≤ 1048576) (hbase : base ≤ w.heap.size)
    (h : ∀ v' w', ORow w' base v' (os ++ [⟨kd, dat⟩]) → Below base w w' → wpList Try.prog ops Q rest (a.put o.dst v') w') : wpList Try.prog ops Q (o :: rest) a w := by
  obtain ⟨i0, hi, hz0, hz1, hz2⟩ := info_parts info_opt
  obtain ⟨xs, hr, hxs⟩ := hown.ex
  refine wpList_append_own_at w hgd s x 52 ho base 86 i0 _ 2 32 Try.underlying52 hi hz0 hz1 hz2 rfl (by omega) v os.length xs hs hr ⟨g0, 0, none⟩ 1 c0 [.int .i64 kd, .slice Ad d cd] hx rfl (by
    intro j u hj
    match j, hj with
    | 0, hj => simp at hj; subst hj; exact q0
    | 1, hj => simp at hj; subst hj; exact q1) (by intro u hu; simp at hu; rcases hu with rfl | rfl <;> rfl) (by unfold maxLen; omega) (by omega) hbase ?_
  intro v' w' n1 n2 _ n4
  exact h v' w' (oRow_more hr hxs hd hbs h1 h2 h3 h4 n1 n2 n4) (Below.grown (Below.refl _ _) n2 hbase (fun q hq => (ORow.lt hown q hq).1))
end Go.Proofs.Ytmgkkgpdnopeaaa

/- The contract of package tcp's measure. -/
namespace Go.Proofs.Ytmgkkgpdnopeaaa
open Go.ChangeShapes Go.WideShapes Go.ChangeAt Go.RowKit
set_option linter.unusedVariables false
set_option linter.unusedSimpArgs false

set_option maxRecDepth 100000 in
set_option maxHeartbeats 1000000 in
theorem tmeasure (A : Option Addr) (n c : Nat) (l : List UInt8) (B : Nat) (w : World) (hn : l.length = n) (h : Bs w B A l) (hn2 : n ≤ 16777216) :
    Calls Try.prog 68 #[.slice A n c] w fun e w' => e = .returned (.tuple #[.int .i64 (tmH l), .int .i64 (tmE l)]) ∧ w = w' := by
  by_cases h65 : 65535 < n
  · have e : tmE l = 4 := by unfold tmE; rw [if_pos (by omega)]
    have e2 : tmH l = 0 := by unfold tmH; rw [e]; rfl
    rw [e, e2]
    clear e e2 hn h
    go_enter Try.func68, Try.ntmps68
    go_wp2
    go_ret2
    exact ⟨rfl, rfl⟩
  by_cases h20 : n < 20
  · have e : tmE l = 2 := by unfold tmE; rw [if_neg (by omega), if_pos (by omega)]
    have e2 : tmH l = 0 := by unfold tmH; rw [e]; rfl
    rw [e, e2]
    clear e e2 hn h
    go_enter Try.func68, Try.ntmps68
    go_wp2
    go_ret2
    exact ⟨rfl, rfl⟩
  obtain ⟨ad, rfl, hlt, hcell⟩ := g8_cells h (by omega)
  have c12 : w.cell? { block := ad.block, off := ad.off + 12 } = some (.int .u8 (g8 l 12)) := by have := hcell 12 (by omega); rwa [add_pos ad 12 (by omega)] at this
  clear hcell
  have b0 := g8_lo l 12
  have b1 := g8_hi l 12
  have i12 : (12 : Int) < (n : Int) := by omega
  by_cases h3 : tsz l < 20 ∨ (n : Int) < tsz l
  · have e : tmE l = 3 := by unfold tmE; rw [if_neg (by omega), if_neg (by omega), if_pos (by rw [hn]; exact h3)]
    have e2 : tmH l = 0 := by unfold tmH; rw [e]; rfl
    rw [e, e2]
    clear e e2 hn h
    unfold tsz at h3
    generalize g8 l 12 = x at *
    have h3' : x / 16 * 4 < 20 ∨ (20 ≤ x / 16 * 4 ∧ (n : Int) < x / 16 * 4) := by omega
    clear h3
    rcases h3' with h3 | ⟨h3, h5⟩
    all_goals
      go_enter Try.func68, Try.ntmps68
      go_wp2
      go_ret2
      exact ⟨rfl, rfl⟩
  · have e : tmE l = 0 := by unfold tmE; rw [if_neg (by omega), if_neg (by omega), if_neg (by rw [hn]; exact h3)]
    have e2 : tmH l = tsz l := by unfold tmH; rw [e]; rfl
    rw [e, e2]
    have e3 : tsz l = g8 l 12 / 16 * 4 := rfl
    rw [e3] at h3 ⊢
    clear e e2 hn h e3
    generalize g8 l 12 = x at *
    have h4 : 20 ≤ x / 16 * 4 := by omega
    have h5 : x / 16 * 4 ≤ (n : Int) := by omega
    clear h3
    go_enter Try.func68, Try.ntmps68
    go_wp2
    go_ret2
    exact ⟨rfl, rfl⟩
end Go.Proofs.Ytmgkkgpdnopeaaa
