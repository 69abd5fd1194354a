/- Contracts of package tcp: options as bytes. -/
import Derived.Test.YtghgemmbbedopaaTcpA4
import Derived.Laws.OwnMore
import Derived.Laws.CopyOwn
import Derived.Deep.AppendLies
import Derived.StillTailTactics
import Derived.Deep.Onto
namespace Go.Proofs.Ytghgemmbbedopaa
open Go.ChangeShapes Go.WideShapes Go.ChangeAt Go.RowKit
set_option linter.unusedVariables false
set_option linter.unusedSimpArgs false

theorem take_splice_mid {cur : List Value} {l o : List UInt8} (n k : Nat) (ht : cur.take n = l.map bv) (hk : k + o.length ≤ n) (hc : n ≤ cur.length) :
    (splice cur k (o.map bv)).take n = (l.take k ++ (o ++ l.drop (k + o.length))).map bv := by
  have hl : l.length = n := by have := congrArg List.length ht; simp at this; omega
  unfold splice
  have e1 : (cur.take k).length = k := by rw [List.length_take]; omega
  have e2 : (l.take k).map bv = cur.take k := by rw [List.map_take, ← ht, List.take_take, Nat.min_eq_left (by omega)]
  have e3 : (l.drop (k + o.length)).map bv = (cur.take n).drop (k + o.length) := by rw [List.map_drop, ← ht]
  rw [List.map_append, List.map_append, e2, e3, List.take_append, e1, List.take_of_length_le (by omega)]
  congr 1
  rw [List.take_append, List.length_map, List.take_of_length_le (by rw [List.length_map]; omega)]
  congr 1
  rw [List.drop_take, show n - k - o.length = n - (k + o.length) by omega]

/-- the bytes when the first k options are put: h20 the head ahead. -/
def optL (h20 : List UInt8) (os : List Op) (m k : Nat) : List UInt8 := h20 ++ (opsB (os.take k) ++ List.replicate (m - olen (os.take k)) 0)
theorem optL_length {h20 : List UInt8} {os : List Op} {m k : Nat} (h : h20.length = 20) (hm : olen os ≤ m) : (optL h20 os m k).length = 20 + m := by
  have := olen_take_le os k
  simp [optL, opsB_length, h]; omega
theorem opt_next {h20 : List UInt8} {os : List Op} {m k : Nat} (h : h20.length = 20) (hm : olen os ≤ m) (hk : k < os.length) (q : Nat) (hq : q = 20 + olen (os.take k)) (a b : UInt8) (ha : a = b8 os[k].kind) (hb : b = b8 (2 + os[k].data.length)) :
    ((((optL h20 os m k).set q a).set (q + 1) b).take (q + 2) ++ (os[k].data ++ (((optL h20 os m k).set q a).set (q + 1) b).drop (q + 2 + os[k].data.length))) = optL h20 os m (k + 1) := by
  have h1 := olen_take_succ os k hk
  have h2 := olen_take_le os (k + 1)
  unfold optL
  rw [opsB_take_succ os k hk, h1]
  generalize hX : opsB (os.take k) = X
  have hXl : X.length = olen (os.take k) := by rw [← hX, opsB_length]
  generalize os[k] = o at *
  obtain ⟨r, hr⟩ : ∃ r, m - olen (os.take k) = (2 + o.data.length) + r := ⟨m - olen (os.take k) - (2 + o.data.length), by omega⟩
  have hr2 : m - (olen (os.take k) + (2 + o.data.length)) = r := by omega
  rw [hr, hr2, ← List.append_assoc h20 X, ← List.append_assoc h20 (X ++ opB o), ← List.append_assoc h20 X (opB o)]
  have hY : (h20 ++ X).length = q := by simp [h, hXl, hq]
  generalize h20 ++ X = Y at *
  rw [show List.replicate (2 + o.data.length + r) (0 : UInt8) = 0 :: 0 :: (List.replicate o.data.length 0 ++ List.replicate r 0) by rw [List.replicate_append_replicate, show 2 + o.data.length + r = (o.data.length + r + 1) + 1 by omega]; rfl]
  subst hY
  rw [List.set_append_right _ _ (Nat.le_refl _), Nat.sub_self, List.set_cons_zero, List.set_append_right _ _ (by omega), show Y.length + 1 - Y.length = 1 by omega, List.set_cons_succ, List.set_cons_zero]
  rw [List.take_append, List.take_of_length_le (by omega), show Y.length + 2 - Y.length = 2 by omega]
  rw [List.drop_append, List.drop_of_length_le (by omega), show Y.length + 2 + o.data.length - Y.length = (o.data.length + 1) + 1 by omega, List.drop_succ_cons, List.drop_succ_cons]
  rw [List.drop_append, List.drop_of_length_le (by simp), List.length_replicate, Nat.sub_self, List.drop_zero]
  subst ha hb
  simp [opB]

set_option maxRecDepth 100000 in
set_option maxHeartbeats 8000000 in
theorem tputOpts (A0 : Option Addr) (A : Option Addr) (no co : Nat) (os : List Op) (B : Nat) (w : World) (g m c : Nat) (h20 : List UInt8) (hO : Own w B g (20 + m) (20 + c) (h20 ++ List.replicate m 0)) (h20l : h20.length = 20) (hn : os.length = no) (h : Os w B A os) (hB : B ≤ w.heap.size) (hm : olen os ≤ m) (hm2 : m ≤ 16777216) (hc : c ≤ 16777216) (hA : 0 < m → A0 = some ⟨g, 20, none⟩) (hk : ∀ o ∈ os, 0 ≤ o.kind ∧ o.kind ≤ 255 ∧ o.data.length ≤ 253) :
    Calls Try.prog 43 #[.slice A0 m c, .slice A no co] w fun e w' => e = .returned (.tuple #[]) ∧ Own w' B g (20 + m) (20 + c) (optL h20 os m os.length) ∧ Below B w w' := by
  subst hn
  obtain ⟨i0, hi, hz0, hz1, hz2⟩ := info_parts info_byte
  have hol : 2 * os.length ≤ olen os := by
    clear hO h hk hm
    induction os with
    | nil => simp
    | cons o r ih => simp only [olen, List.length_cons]; omega
  have hmc := hO.cap.1
  have HO : Hid (Own w B g (20 + m) (20 + c) (optL h20 os m 0)) := Go.Lib.hid (by simpa [optL, opsB, olen] using hO)
  have HA := Go.Lib.hid hA
  have HK := Go.Lib.hid hk
  have HM := Go.Lib.hid hm
  have HH := Go.Lib.hid h20l
  have hno : os.length ≤ 16777216 := by omega
  clear hO hA hk h20l hm hol
  go_enter Try.func43, Try.ntmps43
  go_wp2
  go_loopw [0, 9] (fun s i wx => ∃ (k : Nat) (A' : Option Addr) (r rc q : Nat), k ≤ os.length ∧ i = .int .i64 k ∧ s = .slice A' r rc ∧ Hid (r + olen (os.take k) = m ∧ rc + olen (os.take k) = c ∧ q = 20 + olen (os.take k)) ∧ Hid (0 < r → A' = some ⟨g, q, none⟩) ∧ Hid (Own wx B g (20 + m) (20 + c) (optL h20 os m k)) ∧ Below B w wx) (fun _ i _ => os.length - (intOf i).toNat)
  case atStart => exact ⟨0, A0, m, c, 20, by omega, rfl, rfl, Go.Lib.hid (by simp [olen]), HA, HO, Below.refl _ _⟩
  case round =>
    obtain ⟨k, A', r, rc, q, hk, rfl, rfl, HR, HA', HW, x1⟩ := hrel
    by_cases hlt : k < os.length
    · obtain ⟨ad, Ad, cd, rfl, hb, hc0, hc1, hbs, hdl, hcm, hnil⟩ := (h.below x1).at_ hlt
      have i1 : (0 : Int) ≤ (k : Int) := by omega
      have i2 : (k : Int) < (os.length : Int) := by omega
      obtain ⟨kk0, kk1, kk2⟩ := HK.out _ (List.getElem_mem hlt)
      have HN := Go.Lib.hid (fun a b => opt_next HH.out HM.out hlt q HR.out.2.2 a b)
      have hts := olen_take_succ os k hlt
      have htl := olen_take_le os (k + 1)
      obtain ⟨r1, r2, r3⟩ := HR.out
      have hm' := HM.out
      have hd2 : 2 + os[k].data.length ≤ r := by omega
      have hrr : r ≤ rc := by omega
      have hAq := HA'.out (by omega)
      subst hAq
      have HTS := Go.Lib.hid hts
      have HBS := Go.Lib.hid hbs
      have own := HW.out
      have hq : q + r = 20 + m := by omega
      have HR2 := Go.Lib.hid (And.intro r1 (And.intro r2 r3))
      have HOW := Go.Lib.hid own
      clear hts htl r1 r2 r3 hm' hbs HW HA' HR own
      generalize os[k].kind = kd at *
      have hdat : os[k].data.length = os[k].data.length := rfl
      generalize hdt : os[k].data = dat at *
      clear hdat hdt
      generalize hdd : dat.length = d at *
      have HDD := Go.Lib.hid hdd
      clear hdd
      have e1 := IntWalk.i64_in ((2 : Int) + (d : Int)) (by omega)
      have e2 := IntWalk.u8_in kd (by omega)
      have e3 := IntWalk.u8_in ((2 : Int) + (d : Int)) (by omega)
      go_upto_region 4 with fail
      have y1 : Below wr.heap.size wr (wr.alloc (.cells #[.int .i64 kd, .slice Ad d cd] 39)) := (Below.refl _ _).alloc (Nat.le_refl _) _
      have p0 : (wr.alloc (.cells #[.int .i64 kd, .slice Ad d cd] 39)).cell? ⟨wr.heap.size, 0, none⟩ = some (.int .i64 kd) := by simp [go_sem]
      have p1 : (wr.alloc (.cells #[.int .i64 kd, .slice Ad d cd] 39)).cell? ⟨wr.heap.size, 1, none⟩ = some (.slice Ad d cd) := by simp [go_sem]
      have own := HOW.out.below y1
      have hbr : B ≤ wr.heap.size := Nat.le_trans hB x1.size
      have hbs := HBS.out.below (y1.mono hbr)
      have hgq : g ≠ wr.heap.size := by have := HOW.out.lt.2; omega
      have x2 := x1.alloc hbr (.cells #[.int .i64 kd, .slice Ad d cd] 39)
      clear y1 HOW HBS hc0 hc1 x1 hbr
      generalize wr.alloc (.cells #[.int .i64 kd, .slice Ad d cd] 39) = V at *
      generalize wr.heap.size = bx at *
      have z0 := own.cellAt q (by omega)
      have z1 := own.cellAt (q + 1) (by omega)
      have f0 := own.frozenAt q
      have f1 := own.frozenAt (q + 1)
      obtain ⟨s1, s2⟩ := own.stored q kd kk0 kk1
      obtain ⟨s3, s4⟩ := s1.stored (q + 1) (2 + (d : Int)) (by omega) (by omega)
      have p2 : ((V.setCell ⟨g, q, none⟩ (.int .u8 kd)).setCell ⟨g, q + 1, none⟩ (.int .u8 (2 + (d : Int)))).cell? ⟨bx, 1, none⟩ = some (.slice Ad d cd) := by
        rw [World.cell?_setCell_other _ _ _ _ (fun h => by injection h with h _; omega), World.cell?_setCell_other _ _ _ _ (fun h => by injection h with h _; omega)]
        exact p1
      have S := Go.Lib.hid (And.intro s3 (And.intro (s2.trans s4) (hbs.below (s2.trans s4))))
      clear s1 s2 s3 s4 hbs own
      go_upto_region 5 with fail
      have own := S.out.1
      have x3 := x2.trans S.out.2.1
      have HBS := Go.Lib.hid S.out.2.2
      clear S x2 p0 p1 z0 z1 f0 f1
      generalize (V.setCell ⟨g, q, none⟩ (.int .u8 kd)).setCell ⟨g, q + 1, none⟩ (.int .u8 (2 + (d : Int))) = V2 at *
      have i5 : (2 : Int) ≤ (r : Int) := by omega
      have i6 : (2 : Int) ≤ (rc : Int) := by omega
      have HOW := Go.Lib.hid own
      clear own
      go_still_tail 4, (by kernel_rfl)
      change wpList _ _ _ _ _ V2.drew
      have own : Own V2.drew B g (20 + m) (20 + c) _ := HOW.out
      have hbs : Bs V2.drew B Ad dat := HBS.out
      have x4 : Below B w V2.drew := below_drew x3
      have p3 : V2.drew.cell? ⟨bx, 1, none⟩ = some (.slice Ad d cd) := p2
      clear HOW HBS x3 p2
      generalize V2.drew = V3 at *
      obtain ⟨cur, g1, g2, g3⟩ := own.block
      have hd' := HDD.out
      have HAA : 0 < d → (if rc = 2 then (some ⟨g, q, none⟩ : Option Addr) else some ⟨g, q + 2, none⟩) = some ⟨g, q + 2, none⟩ := fun h => if_neg (by omega)
      generalize (if rc = 2 then (some ⟨g, q, none⟩ : Option Addr) else some ⟨g, q + 2, none⟩) = A27 at *
      refine wpList_copy_splice rfl _ _ 24 24 rfl 5 Try.underlying24 (by rw [hi]; simp [hz1]) A27 Ad (r - 2) (rc - 2) d cd rfl rfl g (q + 2) cur 5 g1 (dat.map bv) ?_ ?_ ?_ (bv_one _) B V3 (Below.refl _ _) own.lt.1 ?_
      · show _ = min _ _; simp; omega
      · intro hpos
        have hpos' : 0 < dat.length := by simpa using hpos
        refine ⟨HAA (by omega), ?_⟩
        rcases hbs.rd with h | ⟨ad, e, _, h⟩
        · simp at h; rw [h] at hpos'; simp at hpos'
        · exact ⟨ad, e, h⟩
      · simp; omega
      intro w14 g4 b13
      have ht := take_splice_mid (o := dat) (20 + m) (q + 2) g3 (by omega) (by omega)
      rw [HDD.out, HN.out _ _ rfl rfl] at ht
      have own2 : Own w14 B g (20 + m) (20 + c) (optL h20 os m (k + 1)) := Own.of_block own.lt.1 g4.out (by rw [length_splice _ _ _ (by simp; omega)]; exact g2) own.cap.1 own.cap.2 (optL_length HH.out HM.out) ht
      have x5 := x4.trans b13
      have HOW := Go.Lib.hid own2
      clear own2 own x4 p3 g1 g2 g3 g4 b13 ht hbs HN HAA hd'
      clear cur
      have i7 : (2 : Int) + (d : Int) ≤ (r : Int) := by omega
      have i8 : (2 : Int) + (d : Int) ≤ (rc : Int) := by omega
      have i9 : (0 : Int) ≤ (2 : Int) + (d : Int) := by omega
      have i10 : ((2 : Int) + (d : Int)).toNat = 2 + d := by omega
      go_wp2
      go_roundw
      case rel =>
        have hA2 : 0 < r - (2 + d) → (if rc = 2 + d then (some ⟨g, q, none⟩ : Option Addr) else some ⟨g, q + (2 + d), none⟩) = some ⟨g, q + (2 + d), none⟩ := fun h => if_neg (by omega)
        obtain ⟨r1, r2, r3⟩ := HR2.out
        have ht := HTS.out
        exact ⟨k + 1, _, r - (2 + d), rc - (2 + d), q + (2 + d), by omega, by go_num, rfl, Go.Lib.hid ⟨by omega, by omega, by omega⟩, Go.Lib.hid hA2, HOW, x5⟩
      case measure => simp [intOf]; omega
    · obtain rfl : k = os.length := by omega
      go_wp2
      go_end0
      exact ⟨rfl, HW.out, x1⟩
end Go.Proofs.Ytghgemmbbedopaa
