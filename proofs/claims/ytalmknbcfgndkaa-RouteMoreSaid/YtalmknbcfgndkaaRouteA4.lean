/- The landed route: Find, Zone. -/
import Derived.Test.YtalmknbcfgndkaaRouteA3
namespace Go.Proofs.Ytalmknbcfgndkaa
open Go.ChangeShapes Go.WideShapes Go.ChangeAt Go.RowKit
set_option linter.unusedVariables false
set_option linter.unusedSimpArgs false

/-- the way so far. -/
structure WayI (l : List Rt) (addr : Int) (k : Nat) (b : Rt) (f : Bool) : Prop where
  is : (f = true ∧ bestR (l.take k) addr = b ∧ 0 ≤ b.bits) ∨ (f = false ∧ bestR (l.take k) addr = rtN ∧ b = rt0)
theorem WayI.out {l : List Rt} {addr : Int} {k : Nat} {b r : Rt} {f : Bool} (h : WayI l addr k b f) (hk : k < l.length) (hr : atR l k = r) (hi : inN addr r.net r.bits = false) : WayI l addr (k + 1) b f := by
  refine ⟨?_⟩
  rw [bestR_take l addr hk, hr]
  rcases h.is with ⟨e1, e2, e3⟩ | ⟨e1, e2, e3⟩
  · exact .inl ⟨e1, by rw [stepR_no (by rw [hi, Bool.and_false]), e2], e3⟩
  · exact .inr ⟨e1, by rw [stepR_no (by rw [hi, Bool.and_false]), e2], e3⟩
theorem WayI.first {l : List Rt} {addr : Int} {k : Nat} {b r : Rt} (h : WayI l addr k b false) (hk : k < l.length) (hr : atR l k = r) (hi : inN addr r.net r.bits = true) : WayI l addr (k + 1) r true := by
  have h0 := in_bits hi
  rcases h.is with ⟨e1, e2, e3⟩ | ⟨e1, e2, e3⟩
  · cases e1
  · refine ⟨.inl ⟨rfl, ?_, h0⟩⟩
    rw [bestR_take l addr hk, hr, e2]
    exact stepR_yes (by rw [hi, Bool.and_true, decide_eq_true_eq]; show (-1 : Int) < r.bits; omega)
theorem WayI.more {l : List Rt} {addr : Int} {k : Nat} {b r : Rt} (h : WayI l addr k b true) (hk : k < l.length) (hr : atR l k = r) (hi : inN addr r.net r.bits = true) (hb : b.bits < r.bits) : WayI l addr (k + 1) r true := by
  rcases h.is with ⟨e1, e2, e3⟩ | ⟨e1, e2, e3⟩
  · refine ⟨.inl ⟨rfl, ?_, by omega⟩⟩
    rw [bestR_take l addr hk, hr, e2]
    exact stepR_yes (by rw [hi, Bool.and_true, decide_eq_true_eq]; exact hb)
  · cases e1
theorem WayI.less {l : List Rt} {addr : Int} {k : Nat} {b r : Rt} (h : WayI l addr k b true) (hk : k < l.length) (hr : atR l k = r) (hb : ¬ b.bits < r.bits) : WayI l addr (k + 1) b true := by
  rcases h.is with ⟨e1, e2, e3⟩ | ⟨e1, e2, e3⟩
  · refine ⟨.inl ⟨rfl, ?_, e3⟩⟩
    rw [bestR_take l addr hk, hr, e2]
    exact stepR_no (by rw [decide_eq_false hb, Bool.false_and])
  · cases e1
theorem WayI.end_ {l : List Rt} {addr : Int} {b : Rt} {f : Bool} (h : WayI l addr l.length b f) (hr : rightR l = true) : findR l addr = (b, f) := by
  have e := h.is
  rw [List.take_length] at e
  unfold findR
  rw [hr, Bool.true_and]
  rcases e with ⟨e1, e2, e3⟩ | ⟨e1, e2, e3⟩
  · rw [e2, decide_eq_true e3, if_pos rfl, e1]
  · rw [e2, e3, e1]
    rfl
set_option maxRecDepth 100000 in
set_option maxHeartbeats 8000000 in
theorem cfind13 : FindC13 := by
  intro l A c N hN h100 addr ha w h q hq
  subst hN
  have HQ0 := Go.Lib.hid hq
  have UA := Go.Lib.hid ha
  have hlc := h.len
  have hcc := h.cap
  have y0 : Below w.heap.size w (w.alloc (oRt rt0)) := (Below.refl _ _).alloc (Nat.le_refl _) _
  have hz := Bxo.made w 26 (rtL rt0)
  have HC := Go.Lib.hid h
  have HC0 := Go.Lib.hid (h.at y0)
  clear hq ha h
  go_enter Try.func8, Try.ntmps8
  go_upto_region 1 with fail
  generalize w.alloc (oRt rt0) = W0 at *
  have HZ0 := Go.Lib.hid (show Bxo W0 w.heap.size 26 (rtL rt0) from hz)
  clear hz
  obtain ⟨b, hb⟩ : ∃ b, rightR l = b := ⟨_, rfl⟩
  have HB := Go.Lib.hid hb
  clear hb
  cases b
  · have HQ : Hid (q = (rt0, false)) := Go.Lib.hid (by rw [← HQ0.out]; unfold findR; rw [HB.out, Bool.false_and, if_neg (by simp)])
    go_wp2_with (first
      | (go_at_call 10; refine (cright13 l A c _ rfl h100 W0 HC0.out _ HB.out).mono ?_; rintro e w1 ⟨rfl, y1⟩; have x1 := y0.trans (y1.mono y0.size); have HZ1 := Go.Lib.hid (HZ0.out.keep y1 HZ0.out.lt); dsimp only)
      | (refine wpList_store_any rfl 26 _ _ rfl w.heap.size 0 26 _ (rtL rt0) _ rfl rfl rfl HZ1.out info_rt (by show 0 + 4 ≤ 4; omega) (by simp [Value.oneCell']) ?_; intro w9 hb9 ho9; have HB9 := Go.Lib.hid hb9; clear hb9))
    exact bodyPost_ret (v := .tuple #[.agg (rtL rt0).toArray, .bool false]) (results_ct13 (p := 4) (u := 5) rfl _ _ w.heap.size _ _ rfl HB9.out Try.underlying26 rfl info_rt) rfl ⟨by rw [HQ.out], x1.trans (ho9.below (Nat.le_refl _))⟩
  · go_upto_region 3 with (go_at_call 10; refine (cright13 l A c _ rfl h100 W0 HC0.out _ HB.out).mono ?_; rintro e w1 ⟨rfl, y1⟩; dsimp only)
    have x1 := y0.trans (y1.mono y0.size)
    have HZ1 := Go.Lib.hid (HZ0.out.keep y1 HZ0.out.lt)
    have y2 : Below w1.heap.size w1 (w1.alloc (oRt rt0)) := (Below.refl _ _).alloc (Nat.le_refl _) _
    have x2 := x1.trans (y2.mono x1.size)
    have HZ2 := Go.Lib.hid (HZ1.out.keep y2 HZ1.out.lt)
    have hb6 := Bxo.made w1 26 (rtL rt0)
    have hzlt := HZ1.out.lt
    clear HZ0 HZ1 y1 y2 HC0
    go_upto_region 4 with fail
    generalize w1.alloc (oRt rt0) = W2 at *
    generalize w1.heap.size = g6 at *
    have HB6 := Go.Lib.hid (show Bxo W2 g6 26 (rtL rt0) from hb6)
    clear hb6
    go_wp2_with fail
    go_loopw [7, 16] (fun fv iv wr => ∃ (k : Nat) (b : Rt) (f : Bool), fv = .bool f ∧ iv = .int .i64 k ∧ k ≤ l.length ∧ Hid (WayI l addr k b f) ∧ Hid (Bxo wr g6 26 (rtL b)) ∧ Hid (Bxo wr w.heap.size 26 (rtL rt0)) ∧ Below w.heap.size w wr) (fun _ iv _ => l.length - (intOf iv).toNat)
    case atStart => exact ⟨0, rt0, false, rfl, rfl, by omega, Go.Lib.hid ⟨.inr ⟨rfl, rfl, rfl⟩⟩, HB6, HZ2, x2⟩
    case round =>
      rename World => wo
      obtain ⟨k, b, f, rfl, rfl, hk, HI, HB6, HZ2, xo⟩ := hrel
      have k0 : (0 : Int) ≤ (k : Int) := by omega
      by_cases hkl : k < l.length
      · have t1 : (k : Int) < (l.length : Int) := by omega
        obtain ⟨ad, rfl, hcell⟩ := HC.out.cell hkl
        obtain ⟨r, hr⟩ : ∃ r, l[k] = r := ⟨_, rfl⟩
        have HR : Hid (atR l k = r) := Go.Lib.hid (by rw [atR_get hkl]; exact hr)
        have HRN : Hid (U32 r.net) := Go.Lib.hid (by rw [← hr]; exact (HC.out.rng _ (List.getElem_mem hkl)).net)
        rw [hr] at hcell
        have HW := Go.Lib.hid (hcell wo xo)
        have yr : Below wo.heap.size wo (wo.alloc (oRt r)) := (Below.refl _ _).alloc (Nat.le_refl _) _
        have xr := xo.trans (yr.mono xo.size)
        have HBr := Go.Lib.hid (HB6.out.keep yr HB6.out.lt)
        have HZr := Go.Lib.hid (HZ2.out.keep yr HZ2.out.lt)
        have hbx := Bxo.made wo 26 (rtL r)
        have hne := HB6.out.lt
        clear hcell hr yr
        go_upto_region 8 with (refine wpList_load_at rfl 26 _ rfl (ad.add (k * 4)) rfl (rtL r) _ HW.out Try.underlying26 rfl info_rt ?_)
        generalize wo.alloc (oRt r) = W at *
        generalize wo.heap.size = g at *
        have HRb := Go.Lib.hid (show Bxo W g 26 (rtL r) from hbx)
        clear hbx HW HB6 HZ2
        obtain ⟨net, bits, zone, mtu⟩ := r
        obtain ⟨bnet, bbits, bzone, bmtu⟩ := b
        have c0 := HRb.out.cell 0 rfl
        have c1 := HRb.out.cell 1 rfl
        dsimp only at c0 c1
        obtain ⟨i, hi⟩ : ∃ i, inN addr net bits = i := ⟨_, rfl⟩
        have HIN := Go.Lib.hid hi
        clear hi
        cases i
        · go_wp2_with (go_at_call 14; refine (cin13 addr net bits UA.out HRN.out W _ HIN.out).mono ?_; rintro e w3 ⟨rfl, y3⟩; have x3 := xr.trans (y3.mono xr.size); have HB3 := Go.Lib.hid (HBr.out.keep y3 HBr.out.lt); have HZ3 := Go.Lib.hid (HZr.out.keep y3 HZr.out.lt); dsimp only)
          go_round
          case rel => exact ⟨k + 1, _, f, rfl, by go_num, by omega, Go.Lib.hid (HI.out.out hkl HR.out HIN.out), HB3, HZ3, x3⟩
          case measure => simp [intOf]; omega
        · cases f
          · go_wp2_with (first
              | (go_at_call 14; refine (cin13 addr net bits UA.out HRN.out W _ HIN.out).mono ?_; rintro e w3 ⟨rfl, y3⟩; have x3 := xr.trans (y3.mono xr.size); have HB3 := Go.Lib.hid (HBr.out.keep y3 HBr.out.lt); have HZ3 := Go.Lib.hid (HZr.out.keep y3 HZr.out.lt); have HR3 := Go.Lib.hid (HRb.out.keep y3 HRb.out.lt); dsimp only)
              | (refine wpList_load_box rfl 26 _ rfl g rfl (rtL ⟨net, bits, zone, mtu⟩) _ HR3.out Try.underlying26 rfl info_rt ?_)
              | (refine wpList_store_any rfl 26 _ _ rfl g6 0 26 _ (rtL ⟨net, bits, zone, mtu⟩) _ rfl rfl rfl HB3.out info_rt (by show 0 + 4 ≤ 4; omega) (by simp [Value.oneCell']) ?_; intro w9 hb9 ho9; have HB9 := Go.Lib.hid hb9; have HZ9 := Go.Lib.hid (HZ3.out.only ho9 (by omega)); clear hb9))
            go_round
            case rel => exact ⟨k + 1, ⟨net, bits, zone, mtu⟩, true, rfl, by go_num, by omega, Go.Lib.hid (HI.out.first hkl HR.out HIN.out), HB9, HZ9, x3.trans (ho9.below (by omega))⟩
            case measure => simp [intOf]; omega
          · by_cases hbb : bbits < bits
            · go_wp2_with (first
                | (go_at_call 14; refine (cin13 addr net bits UA.out HRN.out W _ HIN.out).mono ?_; rintro e w3 ⟨rfl, y3⟩; have x3 := xr.trans (y3.mono xr.size); have HB3 := Go.Lib.hid (HBr.out.keep y3 HBr.out.lt); have HZ3 := Go.Lib.hid (HZr.out.keep y3 HZr.out.lt); have HR3 := Go.Lib.hid (HRb.out.keep y3 HRb.out.lt); have c1 := HR3.out.cell 1 rfl; have d1 := HB3.out.cell 1 rfl; dsimp only at c1 d1; dsimp only)
                | (refine wpList_load_box rfl 26 _ rfl g rfl (rtL ⟨net, bits, zone, mtu⟩) _ HR3.out Try.underlying26 rfl info_rt ?_)
                | (refine wpList_store_any rfl 26 _ _ rfl g6 0 26 _ (rtL ⟨net, bits, zone, mtu⟩) _ rfl rfl rfl HB3.out info_rt (by show 0 + 4 ≤ 4; omega) (by simp [Value.oneCell']) ?_; intro w9 hb9 ho9; have HB9 := Go.Lib.hid hb9; have HZ9 := Go.Lib.hid (HZ3.out.only ho9 (by omega)); clear hb9))
              go_round
              case rel => exact ⟨k + 1, ⟨net, bits, zone, mtu⟩, true, rfl, by go_num, by omega, Go.Lib.hid (HI.out.more hkl HR.out HIN.out hbb), HB9, HZ9, x3.trans (ho9.below (by omega))⟩
              case measure => simp [intOf]; omega
            · go_wp2_with (go_at_call 14; refine (cin13 addr net bits UA.out HRN.out W _ HIN.out).mono ?_; rintro e w3 ⟨rfl, y3⟩; have x3 := xr.trans (y3.mono xr.size); have HB3 := Go.Lib.hid (HBr.out.keep y3 HBr.out.lt); have HZ3 := Go.Lib.hid (HZr.out.keep y3 HZr.out.lt); have HR3 := Go.Lib.hid (HRb.out.keep y3 HRb.out.lt); have c1 := HR3.out.cell 1 rfl; have d1 := HB3.out.cell 1 rfl; dsimp only at c1 d1; dsimp only)
              go_round
              case rel => exact ⟨k + 1, ⟨bnet, bbits, bzone, bmtu⟩, true, rfl, by go_num, by omega, Go.Lib.hid (HI.out.less hkl HR.out hbb), HB3, HZ3, x3⟩
              case measure => simp [intOf]; omega
      · obtain rfl : k = l.length := by omega
        have t1 : ¬ (l.length : Int) < (l.length : Int) := by omega
        have HQ : Hid (q = (b, f)) := Go.Lib.hid (by rw [← HQ0.out]; exact HI.out.end_ HB.out)
        have hne := HB6.out.lt
        go_wp2_with (first
          | (refine wpList_load_box rfl 26 _ rfl g6 rfl (rtL b) _ HB6.out Try.underlying26 rfl info_rt ?_)
          | (refine wpList_store_any rfl 26 _ _ rfl w.heap.size 0 26 _ (rtL b) _ rfl rfl rfl HZ2.out info_rt (by show 0 + 4 ≤ 4; omega) (by simp [Value.oneCell']) ?_; intro w9 hb9 ho9; have HB9 := Go.Lib.hid hb9; clear hb9))
        exact bodyPost_ret (v := .tuple #[.agg (rtL b).toArray, .bool f]) (results_ct13 (p := 4) (u := 5) rfl _ _ w.heap.size _ _ rfl HB9.out Try.underlying26 rfl info_rt) rfl ⟨by rw [HQ.out], xo.trans (ho9.below (Nat.le_refl _))⟩
set_option maxRecDepth 100000 in
set_option maxHeartbeats 4000000 in
theorem czone13 : ZoneC13 := by
  intro l A c N hN h100 addr ha w h q hq
  obtain ⟨⟨r, o⟩, hf⟩ : ∃ q, findR l addr = q := ⟨_, rfl⟩
  have HF := Go.Lib.hid hf
  have HC := Go.Lib.hid h
  have UA := Go.Lib.hid ha
  have HQ : Hid (q = if o then r.zone else -1) := Go.Lib.hid (by rw [← hq]; unfold zoneR; rw [hf])
  clear hf h hq ha
  cases o
  · go_enter Try.func12, Try.ntmps12
    go_wp2_with (go_at_call 8; refine (cfind13 l A c N hN h100 addr UA.out w HC.out _ HF.out).mono ?_; rintro e w2 ⟨rfl, y2⟩; dsimp only)
    go_ret
    exact ⟨by rw [HQ.out]; rfl, below_alloc y2 y2.size _⟩
  · go_enter Try.func12, Try.ntmps12
    go_upto_region 2 with (go_at_call 8; refine (cfind13 l A c N hN h100 addr UA.out w HC.out _ HF.out).mono ?_; rintro e w2 ⟨rfl, y2⟩; dsimp only)
    have y3 := below_alloc y2 y2.size (oRt r)
    have hb := Bxo.made w2 26 (rtL r)
    generalize w2.alloc (oRt r) = w3 at *
    generalize w2.heap.size = g at *
    have c2 := hb.cell 2 rfl
    clear hb
    go_wp2
    go_ret
    exact ⟨by rw [HQ.out]; rfl, y3⟩
end Go.Proofs.Ytalmknbcfgndkaa
