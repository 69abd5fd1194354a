/- The document's own answers for package route: Find, Zone. -/
import Derived.Test.YtalmknbcfgndkaaRouteR
import Derived.Deep.DeepCutAuto
namespace Go.Proofs.Ytalmknbcfgndkaa
open Go.ChangeShapes Go.WideShapes Go.ChangeAt Go.RowKit
set_option linter.unusedVariables false
set_option linter.unusedSimpArgs false

theorem stepR_yes {addr : Int} {b r : Rt} (h : (decide (b.bits < r.bits) && inN addr r.net r.bits) = true) : stepR addr b r = r := by unfold stepR; rw [if_pos h]
theorem stepR_no {addr : Int} {b r : Rt} (h : (decide (b.bits < r.bits) && inN addr r.net r.bits) = false) : stepR addr b r = b := by unfold stepR; rw [h, if_neg (by simp)]
theorem rt_one1 (r : Rt) : ∀ u ∈ rtL r, u.oneCell' = true := by simp [Value.oneCell']
/-- a struct and a bool, as two results. -/
theorem results_ct13 {P : Program} {fn : Func} {p u : Tmp} {t1 : TypeId} (h : fn.results = #[.cell p t1, .tmp u]) (tmps : Array Value) (w : World) (g1 : Nat) (c1 : List Value) (d1 : TypeDesc)
    (hp : tmps.getD p undef = .pointer (some ⟨g1, 0, none⟩)) (h1 : Bxo w g1 t1 c1)
    (u1 : P.underlying t1 = some d1) (r1 : (match d1 with | .struct _ | .array _ _ => true | _ => false) = true) (i1 : (P.info? t1).map (·.size) = some c1.length) :
    (results fn tmps).run P w = .ok (.tuple #[.agg c1.toArray, tmps.getD u undef]) w := by
  have hp' : tmps[p]?.getD undef = .pointer (some ⟨g1, 0, none⟩) := by simpa using hp
  have e1 := run_loadVar_row (P := P) w g1 t1 t1 c1.toArray (0, 0) d1 h1 u1 r1 (by simpa using i1)
  simp [results, h, hp', asAddr, e1]
theorem bestR_take (l : List Rt) (addr : Int) {k : Nat} (hk : k < l.length) : bestR (l.take (k + 1)) addr = stepR addr (bestR (l.take k) addr) (atR l k) := by
  rw [← List.take_append_getElem hk, bestR_snoc, atR_get hk]
set_option maxRecDepth 100000 in
set_option maxHeartbeats 8000000 in
theorem rfind13 (l : List Rt) (A : Option Addr) (c N : Nat) (hN : l.length = N) (addr : Int) (ha : 0 ≤ addr ∧ addr ≤ 4294967295) (w : World) (h : RtsAt w l A c) (q : Rt × Bool) (hq : findR l addr = q) :
    Calls Try.prog 9 #[.slice A N c, .int .u32 addr] w fun e w' => e = .returned (.tuple #[rtV q.1, .bool q.2]) ∧ Below w.heap.size w w' := by
  subst hN
  have HQ0 := Go.Lib.hid hq
  have HC := Go.Lib.hid h
  have hlc := h.len
  have hcc := h.cap
  have y0 : Below w.heap.size w ((w.alloc (oRt rt0)).alloc (oRt rtN)) := below_alloc (below_alloc (Below.refl _ _) (Nat.le_refl _) _) (by simp) _
  have h1 := (Bxo.made w 26 (rtL rt0)).alloc (oRt rtN)
  have h2 : Bxo ((w.alloc (oRt rt0)).alloc (oRt rtN)) (w.heap.size + 1) 26 (rtL rtN) := by
    have := Bxo.made (w.alloc (oRt rt0)) 26 (rtL rtN)
    simpa using this
  clear hq h
  go_enter Try.func9, Try.ntmps9
  go_upto_region 2 with fail
  generalize ((w.alloc (oRt rt0)).alloc (oRt rtN)) = W at *
  have HZ0 := Go.Lib.hid h1
  have HB0 : Hid (Bxo W (w.heap.size + 1) 26 (rtL (bestR (l.take 0) addr))) := Go.Lib.hid h2
  clear h1 h2
  go_wp2_with fail
  go_loopw [7] (fun iv wr => ∃ k : Nat, iv = .int .i64 k ∧ k ≤ l.length ∧ Hid (Bxo wr (w.heap.size + 1) 26 (rtL (bestR (l.take k) addr))) ∧ Hid (Bxo wr w.heap.size 26 (rtL rt0)) ∧ (rightR l = false → k = 0) ∧ Below w.heap.size w wr) (fun iv _ => l.length - (intOf iv).toNat)
  case atStart => exact ⟨0, rfl, by omega, HB0, HZ0, (fun _ => rfl), y0⟩
  case round =>
    rename World => wo
    obtain ⟨k, rfl, hk, HB, HZ, hkr, yo⟩ := hrel
    clear HB0 HZ0
    have k0 : (0 : Int) ≤ (k : Int) := by omega
    obtain ⟨rt, hrt⟩ : ∃ rt, rightR l = rt := ⟨_, rfl⟩
    have HRT := Go.Lib.hid hrt
    rw [hrt] at hkr
    clear hrt
    by_cases hkl : k < l.length
    · have t1 : (k : Int) < (l.length : Int) := by omega
      cases rt
      · obtain rfl := hkr rfl
        have HQ : Hid (q = (rt0, false)) := Go.Lib.hid (by rw [← HQ0.out]; unfold findR; rw [HRT.out, Bool.false_and, if_neg (by simp)])
        have HBN : Hid (Bxo wo (w.heap.size + 1) 26 (rtL rtN)) := HB
        go_upto_region 7 with (go_at_call 11; refine (rright13 l A c _ rfl wo (HC.out.at yo) _ HRT.out).mono ?_; rintro e w2 ⟨rfl, y2⟩; have HBN := Go.Lib.hid (HBN.out.keep y2 HBN.out.lt); have HZ := Go.Lib.hid (HZ.out.keep y2 HZ.out.lt); dsimp only)
        have c1 := HBN.out.cell 1 rfl
        dsimp only at c1
        go_wp2_with (refine wpList_store_any rfl 26 _ _ rfl w.heap.size 0 26 _ (rtL rt0) _ rfl rfl rfl HZ.out info_rt (by show 0 + 4 ≤ 4; omega) (by simp [Value.oneCell']) ?_; intro w9 hb9 ho9; have HB9 := Go.Lib.hid hb9; clear hb9)
        exact bodyPost_ret (v := .tuple #[.agg (rtL rt0).toArray, .bool false]) (results_ct13 (p := 4) (u := 5) rfl _ _ w.heap.size _ _ rfl HB9.out Try.underlying26 rfl info_rt) rfl ⟨by rw [HQ.out], (yo.trans (y2.mono yo.size)).trans (ho9.below (Nat.le_refl _))⟩
      · have HRR := HRT
        obtain ⟨r, hr⟩ : ∃ r, l[k] = r := ⟨_, rfl⟩
        have HNR : Hid (0 ≤ r.net ∧ r.net ≤ 4294967295) := Go.Lib.hid (by rw [← hr]; exact (HC.out.rng _ (List.getElem_mem hkl)).net)
        obtain ⟨ad, rfl, hcs⟩ := HC.out.cells hkl
        obtain ⟨ad', e', hce⟩ := HC.out.cell hkl
        cases e'
        rw [hr] at hcs hce
        obtain ⟨b, hb⟩ : ∃ b, bestR (l.take k) addr = b := ⟨_, rfl⟩
        have HST : Hid (bestR (l.take (k + 1)) addr = stepR addr b r) := Go.Lib.hid (by rw [bestR_take l addr hkl, hb, atR_get hkl, hr])
        rw [hb] at HB
        obtain ⟨net, bits, zone, mtu⟩ := r
        obtain ⟨bnet, bbits, bzone, bmtu⟩ := b
        have HNR : Hid (0 ≤ net ∧ net ≤ 4294967295) := HNR
        go_upto_region 5 with (go_at_call 11; refine (rright13 l (some ad) c _ rfl wo (HC.out.at yo) _ HRT.out).mono ?_; rintro e w2 ⟨rfl, y2⟩; have HB := Go.Lib.hid (HB.out.keep y2 HB.out.lt); have HZ := Go.Lib.hid (HZ.out.keep y2 HZ.out.lt); have x2 := yo.trans (y2.mono yo.size); dsimp only)
        have HRC : Hid (∀ Y, Below w2.heap.size w2 Y → Y.cell? (ad.add (k * 4)) = some (.int .u32 net) ∧ Y.cell? { block := (ad.add (k * 4)).block, off := (ad.add (k * 4)).off + 1 } = some (.int .i64 bits)) := Go.Lib.hid (fun Y y => hcs Y (x2.trans (y.mono x2.size)))
        have HCE : Hid (∀ Y, Below w2.heap.size w2 Y → ∀ j v, (rtL ⟨net, bits, zone, mtu⟩)[j]? = some v → Y.cell? ((ad.add (k * 4)).add j) = some v) := Go.Lib.hid (fun Y y => hce Y (x2.trans (y.mono x2.size)))
        clear hcs hce hr hb hkr
        by_cases hbb : bbits < bits
        · obtain ⟨in_, hin⟩ : ∃ in_, inN addr net bits = in_ := ⟨_, rfl⟩
          have HIN := Go.Lib.hid hin
          clear hin
          try simp only [Act.put, List.setIfInBounds_toArray, List.set_cons_zero, List.set_cons_succ]
          refine wp_region_held_drew (S := fun Y => Below w2.heap.size w2 Y) (by kernel_rfl) ?_ (fun hHeld => ?_)
          · exact below_drew (Below.refl _ _)
          refine wpAnyH_take (i := 0) (oi := ⟨some 19, _, _, _, _, _⟩) (v := ?_) rfl (by kernel_rfl) (by kernel_rfl) (by kernel_rfl) (fun _ _ _ h => h) (Or.inl ⟨by rfl, ?_⟩) (by assumption) ?_
          rotate_left
          · intro w hSw; (try dsimp only at hSw); go_simp; (try with_reducible rfl)
          try simp only [Act.put, List.setIfInBounds_toArray, List.set_cons_zero, List.set_cons_succ]
          refine wpAnyH_take (i := 1) (oi := ⟨some 20, _, _, _, _, _⟩) (v := ?_) rfl (by kernel_rfl) (by kernel_rfl) (by kernel_rfl) (fun _ _ _ h => h) (Or.inl ⟨by rfl, ?_⟩) (by assumption) ?_
          rotate_left
          · intro w hSw; (try dsimp only at hSw); go_simp; (try with_reducible rfl)
          try simp only [Act.put, List.setIfInBounds_toArray, List.set_cons_zero, List.set_cons_succ]
          refine wpAnyH_take (i := 2) (oi := ⟨some 21, _, _, _, _, _⟩) (v := ?_) rfl (by kernel_rfl) (by kernel_rfl) (by kernel_rfl) (fun _ _ _ h => h) (Or.inl ⟨by rfl, ?_⟩) (by assumption) ?_
          rotate_left
          · intro w hSw; (try dsimp only at hSw); go_simp; (try with_reducible rfl)
          try simp only [Act.put, List.setIfInBounds_toArray, List.set_cons_zero, List.set_cons_succ]
          refine wpAnyH_take (i := 3) (oi := ⟨some 22, _, _, _, _, _⟩) (v := ?_) rfl (by kernel_rfl) (by kernel_rfl) (by kernel_rfl) (fun _ _ _ h => h) (Or.inl ⟨by rfl, ?_⟩) (by assumption) ?_
          rotate_left
          · intro w hSw; (try dsimp only at hSw); go_simp; (try with_reducible rfl)
          try simp only [Act.put, List.setIfInBounds_toArray, List.set_cons_zero, List.set_cons_succ]
          refine wpAnyH_take (i := 4) (oi := ⟨some 23, _, _, _, _, _⟩) (v := ?_) rfl (by kernel_rfl) (by kernel_rfl) (by kernel_rfl) (fun _ _ _ h => h) (Or.inl ⟨by rfl, ?_⟩) (by assumption) ?_
          rotate_left
          · intro w hSw; have zc := (HRC.out _ hSw).2; (try dsimp only at hSw); go_simp; (try with_reducible rfl)
          try simp only [Act.put, List.setIfInBounds_toArray, List.set_cons_zero, List.set_cons_succ]
          refine wpAnyH_take (i := 5) (oi := ⟨some 24, _, _, _, _, _⟩) (v := ?_) rfl (by kernel_rfl) (by kernel_rfl) (by kernel_rfl) (fun _ _ _ h => h) (Or.inl ⟨by rfl, ?_⟩) (by assumption) ?_
          rotate_left
          · intro w hSw; (try dsimp only at hSw); go_simp; (try with_reducible rfl)
          try simp only [Act.put, List.setIfInBounds_toArray, List.set_cons_zero, List.set_cons_succ]
          refine wpAnyH_take (i := 6) (oi := ⟨some 25, _, _, _, _, _⟩) (v := ?_) rfl (by kernel_rfl) (by kernel_rfl) (by kernel_rfl) (fun _ _ _ h => h) (Or.inl ⟨by rfl, ?_⟩) (by assumption) ?_
          rotate_left
          · intro w hSw; have zc := (HB.out.keep hSw HB.out.lt).cell 1 rfl; (try dsimp only at hSw); go_simp; (try with_reducible rfl)
          try simp only [Act.put, List.setIfInBounds_toArray, List.set_cons_zero, List.set_cons_succ]
          refine wpAnyH_take (i := 7) (oi := ⟨some 26, _, _, _, _, _⟩) (v := ?_) rfl (by kernel_rfl) (by kernel_rfl) (by kernel_rfl) (fun _ _ _ h => h) (Or.inl ⟨by rfl, ?_⟩) (by assumption) ?_
          rotate_left
          · intro w hSw; (try dsimp only at hSw); go_simp; (try with_reducible rfl)
          try simp only [Act.put, List.setIfInBounds_toArray, List.set_cons_zero, List.set_cons_succ]
          refine wpAnyH_take (i := 8) (oi := ⟨some 27, _, _, _, _, _⟩) (v := ?_) rfl (by kernel_rfl) (by kernel_rfl) (by kernel_rfl) (fun _ _ _ h => h) (Or.inl ⟨by rfl, ?_⟩) (by assumption) ?_
          rotate_left
          · intro w hSw; (try dsimp only at hSw); go_simp; (try with_reducible rfl)
          try simp only [Act.put, List.setIfInBounds_toArray, List.set_cons_zero, List.set_cons_succ]
          refine wpAnyH_take (i := 9) (oi := ⟨some 28, _, _, _, _, _⟩) (v := ?_) rfl (by kernel_rfl) (by kernel_rfl) (by kernel_rfl) (fun _ _ _ h => h) (Or.inl ⟨by rfl, ?_⟩) (by assumption) ?_
          rotate_left
          · intro w hSw; (try dsimp only at hSw); go_simp; (try with_reducible rfl)
          try simp only [Act.put, List.setIfInBounds_toArray, List.set_cons_zero, List.set_cons_succ]
          refine wpAnyH_take (i := 10) (oi := ⟨some 29, _, _, _, _, _⟩) (v := ?_) rfl (by kernel_rfl) (by kernel_rfl) (by kernel_rfl) (fun _ _ _ h => h) (Or.inl ⟨by rfl, ?_⟩) (by assumption) ?_
          rotate_left
          · intro w hSw; (try dsimp only at hSw); go_simp; (try with_reducible rfl)
          try simp only [Act.put, List.setIfInBounds_toArray, List.set_cons_zero, List.set_cons_succ]
          refine wpAnyH_take (i := 11) (oi := ⟨some 30, _, _, _, _, _⟩) (v := ?_) rfl (by kernel_rfl) (by kernel_rfl) (by kernel_rfl) (fun _ _ _ h => h) (Or.inl ⟨by rfl, ?_⟩) (by assumption) ?_
          rotate_left
          · intro w hSw; (try dsimp only at hSw); go_simp; (try with_reducible rfl)
          try simp only [Act.put, List.setIfInBounds_toArray, List.set_cons_zero, List.set_cons_succ]
          refine wpAnyH_take (i := 12) (oi := ⟨some 31, _, _, _, _, _⟩) (v := ?_) rfl (by kernel_rfl) (by kernel_rfl) (by kernel_rfl) (fun _ _ _ h => h) (Or.inl ⟨by rfl, ?_⟩) (by assumption) ?_
          rotate_left
          · intro w hSw; (try dsimp only at hSw); go_simp; (try with_reducible rfl)
          try simp only [Act.put, List.setIfInBounds_toArray, List.set_cons_zero, List.set_cons_succ]
          refine wpAnyH_take (i := 13) (oi := ⟨some 32, _, _, _, _, _⟩) (v := ?_) rfl (by kernel_rfl) (by kernel_rfl) (by kernel_rfl) (fun _ _ _ h => h) (Or.inl ⟨by rfl, ?_⟩) (by assumption) ?_
          rotate_left
          · intro w hSw; (try dsimp only at hSw); go_simp; (try with_reducible rfl)
          try simp only [Act.put, List.setIfInBounds_toArray, List.set_cons_zero, List.set_cons_succ]
          refine wpAnyH_take (i := 14) (oi := ⟨some 33, _, _, _, _, _⟩) (v := ?_) rfl (by kernel_rfl) (by kernel_rfl) (by kernel_rfl) (fun _ _ _ h => h) (Or.inl ⟨by rfl, ?_⟩) (by assumption) ?_
          rotate_left
          · intro w hSw; have zc := (HRC.out _ hSw).1; (try dsimp only at hSw); go_simp; (try with_reducible rfl)
          try simp only [Act.put, List.setIfInBounds_toArray, List.set_cons_zero, List.set_cons_succ]
          refine wpAnyH_take (i := 15) (oi := ⟨some 34, _, _, _, _, _⟩) (v := ?_) rfl (by kernel_rfl) (by kernel_rfl) (by kernel_rfl) (fun _ _ _ h => h) (Or.inl ⟨by rfl, ?_⟩) (by assumption) ?_
          rotate_left
          · intro w hSw; (try dsimp only at hSw); go_simp; (try with_reducible rfl)
          try simp only [Act.put, List.setIfInBounds_toArray, List.set_cons_zero, List.set_cons_succ]
          refine wpAnyH_take (i := 16) (oi := ⟨some 35, _, _, _, _, _⟩) (v := ?_) rfl (by kernel_rfl) (by kernel_rfl) (by kernel_rfl) (fun _ _ _ h => h) (Or.inl ⟨by rfl, ?_⟩) (by assumption) ?_
          rotate_left
          · intro w hSw; (try dsimp only at hSw); go_simp; (try with_reducible rfl)
          try simp only [Act.put, List.setIfInBounds_toArray, List.set_cons_zero, List.set_cons_succ]
          refine wpAnyH_take (i := 17) (oi := ⟨some 36, _, _, _, _, _⟩) (v := ?_) rfl (by kernel_rfl) (by kernel_rfl) (by kernel_rfl) (fun _ _ _ h => h) (Or.inl ⟨by rfl, ?_⟩) (by assumption) ?_
          rotate_left
          · intro w hSw; (try dsimp only at hSw); go_simp; (try with_reducible rfl)
          try simp only [Act.put, List.setIfInBounds_toArray, List.set_cons_zero, List.set_cons_succ]
          refine wpAnyH_take (i := 18) (oi := ⟨some 37, _, _, _, _, _⟩) (v := ?_) rfl (by kernel_rfl) (by kernel_rfl) (by kernel_rfl) (fun _ _ _ h => h) (Or.inl ⟨by rfl, ?_⟩) (by assumption) ?_
          rotate_left
          · intro w hSw; (try dsimp only at hSw); go_simp; (try with_reducible rfl)
          try simp only [Act.put, List.setIfInBounds_toArray, List.set_cons_zero, List.set_cons_succ]
          refine wpAnyH_take (i := 19) (oi := ⟨some 38, _, _, _, _, _⟩) (v := ?_) rfl (by kernel_rfl) (by kernel_rfl) (by kernel_rfl) (fun _ _ _ h => h) (Or.inl ⟨by rfl, ?_⟩) (by assumption) ?_
          rotate_left
          · intro w hSw; have zc := (HRC.out _ hSw).2; (try dsimp only at hSw); go_simp; (try with_reducible rfl)
          try simp only [Act.put, List.setIfInBounds_toArray, List.set_cons_zero, List.set_cons_succ]
          refine wpAnyH_ready (rs := [20]) (by kernel_rfl) (by simp) (AllReadyH.cons (o := ⟨some 39, _, _, _, _, _⟩) rfl (fun Kc hKc => ?_) AllReadyH.nil)
          go_simp
          go_at_call 15; refine (rin13 addr net bits ha HNR.out _ in_ HIN.out).mono ?_; rintro e w7 ⟨rfl, y7⟩; dsimp only
          refine hKc.out _ _ (hHeld.trans (y7.mono hHeld.size)) (fun hHeld => ?_)
          clear hKc Kc
          try simp only [Act.put, List.setIfInBounds_toArray, List.set_cons_zero, List.set_cons_succ]
          refine wpAnyH_take (i := 21) (oi := ⟨some 40, _, _, _, _, _⟩) (v := ?_) rfl (by kernel_rfl) (by kernel_rfl) (by kernel_rfl) (fun _ _ _ h => h) (Or.inl ⟨by rfl, ?_⟩) (by assumption) ?_
          rotate_left
          · intro w hSw; (try dsimp only at hSw); go_simp; (try with_reducible rfl)
          try simp only [Act.put, List.setIfInBounds_toArray, List.set_cons_zero, List.set_cons_succ]
          refine wpAnyH_done (by kernel_rfl) ?_ _
          have yq := hHeld
          clear hHeld
          have HB8 := Go.Lib.hid (HB.out.keep yq HB.out.lt)
          have HZ8 := Go.Lib.hid (HZ.out.keep yq HZ.out.lt)
          have HLD := Go.Lib.hid (HCE.out _ yq)
          cases in_
          · go_wp2
            go_round
            case rel => exact ⟨k + 1, by go_num, by omega, Go.Lib.hid (by rw [HST.out, stepR_no (by rw [HIN.out, Bool.and_false])]; exact HB8.out), HZ8, (fun e => by rw [HRT.out] at e; cases e), x2.trans (yq.mono x2.size)⟩
            case measure => simp [intOf]; omega
          · have hzg := HB8.out.lt
            go_wp2_with (first
              | (refine wpList_load_at rfl 26 _ rfl (ad.add (k * 4)) rfl (rtL ⟨net, bits, zone, mtu⟩) _ HLD.out Try.underlying26 rfl info_rt ?_)
              | (refine wpList_store_any rfl 26 _ _ rfl (w.heap.size + 1) 0 26 _ (rtL ⟨net, bits, zone, mtu⟩) _ rfl rfl rfl HB8.out info_rt (by show 0 + 4 ≤ 4; omega) (by simp [Value.oneCell']) ?_; intro w9 hb9 ho9; have HB9 := Go.Lib.hid hb9; have HZ9 := Go.Lib.hid (HZ8.out.only ho9 (by omega)); clear hb9))
            go_round
            case rel => exact ⟨k + 1, by go_num, by omega, Go.Lib.hid (by rw [HST.out, stepR_yes (by rw [HIN.out, Bool.and_true, decide_eq_true hbb])]; exact HB9.out), HZ9, (fun e => by rw [HRT.out] at e; cases e), (x2.trans (yq.mono x2.size)).trans (ho9.below (show w.heap.size ≤ w.heap.size + 1 by omega))⟩
            case measure => simp [intOf]; omega
        · try simp only [Act.put, List.setIfInBounds_toArray, List.set_cons_zero, List.set_cons_succ]
          refine wp_region_held_drew (S := fun Y => Below w2.heap.size w2 Y) (by kernel_rfl) ?_ (fun hHeld => ?_)
          · exact below_drew (Below.refl _ _)
          refine wpAnyH_take (i := 0) (oi := ⟨some 19, _, _, _, _, _⟩) (v := ?_) rfl (by kernel_rfl) (by kernel_rfl) (by kernel_rfl) (fun _ _ _ h => h) (Or.inl ⟨by rfl, ?_⟩) (by assumption) ?_
          rotate_left
          · intro w hSw; (try dsimp only at hSw); go_simp; (try with_reducible rfl)
          try simp only [Act.put, List.setIfInBounds_toArray, List.set_cons_zero, List.set_cons_succ]
          refine wpAnyH_take (i := 1) (oi := ⟨some 20, _, _, _, _, _⟩) (v := ?_) rfl (by kernel_rfl) (by kernel_rfl) (by kernel_rfl) (fun _ _ _ h => h) (Or.inl ⟨by rfl, ?_⟩) (by assumption) ?_
          rotate_left
          · intro w hSw; (try dsimp only at hSw); go_simp; (try with_reducible rfl)
          try simp only [Act.put, List.setIfInBounds_toArray, List.set_cons_zero, List.set_cons_succ]
          refine wpAnyH_take (i := 2) (oi := ⟨some 21, _, _, _, _, _⟩) (v := ?_) rfl (by kernel_rfl) (by kernel_rfl) (by kernel_rfl) (fun _ _ _ h => h) (Or.inl ⟨by rfl, ?_⟩) (by assumption) ?_
          rotate_left
          · intro w hSw; (try dsimp only at hSw); go_simp; (try with_reducible rfl)
          try simp only [Act.put, List.setIfInBounds_toArray, List.set_cons_zero, List.set_cons_succ]
          refine wpAnyH_take (i := 3) (oi := ⟨some 22, _, _, _, _, _⟩) (v := ?_) rfl (by kernel_rfl) (by kernel_rfl) (by kernel_rfl) (fun _ _ _ h => h) (Or.inl ⟨by rfl, ?_⟩) (by assumption) ?_
          rotate_left
          · intro w hSw; (try dsimp only at hSw); go_simp; (try with_reducible rfl)
          try simp only [Act.put, List.setIfInBounds_toArray, List.set_cons_zero, List.set_cons_succ]
          refine wpAnyH_take (i := 4) (oi := ⟨some 23, _, _, _, _, _⟩) (v := ?_) rfl (by kernel_rfl) (by kernel_rfl) (by kernel_rfl) (fun _ _ _ h => h) (Or.inl ⟨by rfl, ?_⟩) (by assumption) ?_
          rotate_left
          · intro w hSw; have zc := (HRC.out _ hSw).2; (try dsimp only at hSw); go_simp; (try with_reducible rfl)
          try simp only [Act.put, List.setIfInBounds_toArray, List.set_cons_zero, List.set_cons_succ]
          refine wpAnyH_take (i := 5) (oi := ⟨some 24, _, _, _, _, _⟩) (v := ?_) rfl (by kernel_rfl) (by kernel_rfl) (by kernel_rfl) (fun _ _ _ h => h) (Or.inl ⟨by rfl, ?_⟩) (by assumption) ?_
          rotate_left
          · intro w hSw; (try dsimp only at hSw); go_simp; (try with_reducible rfl)
          try simp only [Act.put, List.setIfInBounds_toArray, List.set_cons_zero, List.set_cons_succ]
          refine wpAnyH_take (i := 6) (oi := ⟨some 25, _, _, _, _, _⟩) (v := ?_) rfl (by kernel_rfl) (by kernel_rfl) (by kernel_rfl) (fun _ _ _ h => h) (Or.inl ⟨by rfl, ?_⟩) (by assumption) ?_
          rotate_left
          · intro w hSw; have zc := (HB.out.keep hSw HB.out.lt).cell 1 rfl; (try dsimp only at hSw); go_simp; (try with_reducible rfl)
          try simp only [Act.put, List.setIfInBounds_toArray, List.set_cons_zero, List.set_cons_succ]
          refine wpAnyH_take (i := 7) (oi := ⟨some 26, _, _, _, _, _⟩) (v := ?_) rfl (by kernel_rfl) (by kernel_rfl) (by kernel_rfl) (fun _ _ _ h => h) (Or.inl ⟨by rfl, ?_⟩) (by assumption) ?_
          rotate_left
          · intro w hSw; (try dsimp only at hSw); go_simp; (try with_reducible rfl)
          try simp only [Act.put, List.setIfInBounds_toArray, List.set_cons_zero, List.set_cons_succ]
          refine wpAnyH_take (i := 8) (oi := ⟨some 27, _, _, _, _, _⟩) (v := ?_) rfl (by kernel_rfl) (by kernel_rfl) (by kernel_rfl) (fun _ _ _ h => h) (Or.inl ⟨by rfl, ?_⟩) (by assumption) ?_
          rotate_left
          · intro w hSw; (try dsimp only at hSw); go_simp; (try with_reducible rfl)
          try simp only [Act.put, List.setIfInBounds_toArray, List.set_cons_zero, List.set_cons_succ]
          refine wpAnyH_take (i := 9) (oi := ⟨some 28, _, _, _, _, _⟩) (v := undef) rfl (by kernel_rfl) (by kernel_rfl) (by kernel_rfl) (fun _ _ _ h => h) (Or.inr ⟨by rfl, rfl⟩) (by assumption) ?_
          try simp only [Act.put, List.setIfInBounds_toArray, List.set_cons_zero, List.set_cons_succ]
          refine wpAnyH_take (i := 10) (oi := ⟨some 29, _, _, _, _, _⟩) (v := undef) rfl (by kernel_rfl) (by kernel_rfl) (by kernel_rfl) (fun _ _ _ h => h) (Or.inr ⟨by rfl, rfl⟩) (by assumption) ?_
          try simp only [Act.put, List.setIfInBounds_toArray, List.set_cons_zero, List.set_cons_succ]
          refine wpAnyH_take (i := 11) (oi := ⟨some 30, _, _, _, _, _⟩) (v := undef) rfl (by kernel_rfl) (by kernel_rfl) (by kernel_rfl) (fun _ _ _ h => h) (Or.inr ⟨by rfl, rfl⟩) (by assumption) ?_
          try simp only [Act.put, List.setIfInBounds_toArray, List.set_cons_zero, List.set_cons_succ]
          refine wpAnyH_take (i := 12) (oi := ⟨some 31, _, _, _, _, _⟩) (v := undef) rfl (by kernel_rfl) (by kernel_rfl) (by kernel_rfl) (fun _ _ _ h => h) (Or.inr ⟨by rfl, rfl⟩) (by assumption) ?_
          try simp only [Act.put, List.setIfInBounds_toArray, List.set_cons_zero, List.set_cons_succ]
          refine wpAnyH_take (i := 13) (oi := ⟨some 32, _, _, _, _, _⟩) (v := undef) rfl (by kernel_rfl) (by kernel_rfl) (by kernel_rfl) (fun _ _ _ h => h) (Or.inr ⟨by rfl, rfl⟩) (by assumption) ?_
          try simp only [Act.put, List.setIfInBounds_toArray, List.set_cons_zero, List.set_cons_succ]
          refine wpAnyH_take (i := 14) (oi := ⟨some 33, _, _, _, _, _⟩) (v := undef) rfl (by kernel_rfl) (by kernel_rfl) (by kernel_rfl) (fun _ _ _ h => h) (Or.inr ⟨by rfl, rfl⟩) (by assumption) ?_
          try simp only [Act.put, List.setIfInBounds_toArray, List.set_cons_zero, List.set_cons_succ]
          refine wpAnyH_take (i := 15) (oi := ⟨some 34, _, _, _, _, _⟩) (v := undef) rfl (by kernel_rfl) (by kernel_rfl) (by kernel_rfl) (fun _ _ _ h => h) (Or.inr ⟨by rfl, rfl⟩) (by assumption) ?_
          try simp only [Act.put, List.setIfInBounds_toArray, List.set_cons_zero, List.set_cons_succ]
          refine wpAnyH_take (i := 16) (oi := ⟨some 35, _, _, _, _, _⟩) (v := undef) rfl (by kernel_rfl) (by kernel_rfl) (by kernel_rfl) (fun _ _ _ h => h) (Or.inr ⟨by rfl, rfl⟩) (by assumption) ?_
          try simp only [Act.put, List.setIfInBounds_toArray, List.set_cons_zero, List.set_cons_succ]
          refine wpAnyH_take (i := 17) (oi := ⟨some 36, _, _, _, _, _⟩) (v := undef) rfl (by kernel_rfl) (by kernel_rfl) (by kernel_rfl) (fun _ _ _ h => h) (Or.inr ⟨by rfl, rfl⟩) (by assumption) ?_
          try simp only [Act.put, List.setIfInBounds_toArray, List.set_cons_zero, List.set_cons_succ]
          refine wpAnyH_take (i := 18) (oi := ⟨some 37, _, _, _, _, _⟩) (v := undef) rfl (by kernel_rfl) (by kernel_rfl) (by kernel_rfl) (fun _ _ _ h => h) (Or.inr ⟨by rfl, rfl⟩) (by assumption) ?_
          try simp only [Act.put, List.setIfInBounds_toArray, List.set_cons_zero, List.set_cons_succ]
          refine wpAnyH_take (i := 19) (oi := ⟨some 38, _, _, _, _, _⟩) (v := undef) rfl (by kernel_rfl) (by kernel_rfl) (by kernel_rfl) (fun _ _ _ h => h) (Or.inr ⟨by rfl, rfl⟩) (by assumption) ?_
          try simp only [Act.put, List.setIfInBounds_toArray, List.set_cons_zero, List.set_cons_succ]
          refine wpAnyH_take (i := 20) (oi := ⟨some 39, _, _, _, _, _⟩) (v := undef) rfl (by kernel_rfl) (by kernel_rfl) (by kernel_rfl) (fun _ _ _ h => h) (Or.inr ⟨by rfl, rfl⟩) (by assumption) ?_
          try simp only [Act.put, List.setIfInBounds_toArray, List.set_cons_zero, List.set_cons_succ]
          refine wpAnyH_take (i := 21) (oi := ⟨some 40, _, _, _, _, _⟩) (v := ?_) rfl (by kernel_rfl) (by kernel_rfl) (by kernel_rfl) (fun _ _ _ h => h) (Or.inl ⟨by rfl, ?_⟩) (by assumption) ?_
          rotate_left
          · intro w hSw; (try dsimp only at hSw); go_simp; (try with_reducible rfl)
          try simp only [Act.put, List.setIfInBounds_toArray, List.set_cons_zero, List.set_cons_succ]
          refine wpAnyH_done (by kernel_rfl) ?_ _
          have yq := hHeld
          clear hHeld
          have HB8 := Go.Lib.hid (HB.out.keep yq HB.out.lt)
          have HZ8 := Go.Lib.hid (HZ.out.keep yq HZ.out.lt)
          go_wp2
          go_round
          case rel => exact ⟨k + 1, by go_num, by omega, Go.Lib.hid (by rw [HST.out, stepR_no (by rw [decide_eq_false (show ¬ (⟨bnet, bbits, bzone, bmtu⟩ : Rt).bits < (⟨net, bits, zone, mtu⟩ : Rt).bits from hbb), Bool.false_and])]; exact HB8.out), HZ8, (fun e => by rw [HRT.out] at e; cases e), x2.trans (yq.mono x2.size)⟩
          case measure => simp [intOf]; omega
    · obtain rfl : k = l.length := by omega
      have t1 : ¬ (l.length : Int) < (l.length : Int) := by omega
      obtain ⟨b, hb⟩ : ∃ b, bestR l addr = b := ⟨_, rfl⟩
      rw [List.take_length, hb] at HB
      have hor : rt = true ∨ b = rtN := by
        cases rt
        · right
          have h0 := hkr rfl
          have : l = [] := List.eq_nil_of_length_eq_zero h0
          rw [← hb, this]; rfl
        · exact .inl rfl
      obtain ⟨bnet, bbits, bzone, bmtu⟩ := b
      have c1 := HB.out.cell 1 rfl
      dsimp only at c1
      by_cases hn : bbits < 0
      · have HQ : Hid (q = (rt0, false)) := Go.Lib.hid (by
          rw [← HQ0.out]
          unfold findR
          rw [hb, decide_eq_false (show ¬ 0 ≤ (⟨bnet, bbits, bzone, bmtu⟩ : Rt).bits by dsimp only; omega), Bool.and_false, if_neg (by simp)])
        have HBN := HB
        have y2 := Below.refl wo.heap.size wo
        clear hb hor hkr
        go_wp2_with (refine wpList_store_any rfl 26 _ _ rfl w.heap.size 0 26 _ (rtL rt0) _ rfl rfl rfl HZ.out info_rt (by show 0 + 4 ≤ 4; omega) (by simp [Value.oneCell']) ?_; intro w9 hb9 ho9; have HB9 := Go.Lib.hid hb9; clear hb9)
        exact bodyPost_ret (v := .tuple #[.agg (rtL rt0).toArray, .bool false]) (results_ct13 (p := 4) (u := 5) rfl _ _ w.heap.size _ _ rfl HB9.out Try.underlying26 rfl info_rt) rfl ⟨by rw [HQ.out], (yo.trans (y2.mono yo.size)).trans (ho9.below (Nat.le_refl _))⟩
      · have HQ : Hid (q = (⟨bnet, bbits, bzone, bmtu⟩, true)) := Go.Lib.hid (by
          rw [← HQ0.out]
          unfold findR
          have : rt = true := hor.resolve_right (fun e => by injection e with _ e2; omega)
          rw [hb, HRT.out, this, decide_eq_true (show 0 ≤ (⟨bnet, bbits, bzone, bmtu⟩ : Rt).bits by dsimp only; omega)]
          rfl)
        have hz1 := HB.out.lt
        clear hb hor hkr
        go_wp2_with (first
          | (refine wpList_load_box rfl 26 _ rfl (w.heap.size + 1) rfl (rtL ⟨bnet, bbits, bzone, bmtu⟩) _ HB.out Try.underlying26 rfl info_rt ?_)
          | (refine wpList_store_any rfl 26 _ _ rfl w.heap.size 0 26 _ (rtL ⟨bnet, bbits, bzone, bmtu⟩) _ rfl rfl rfl HZ.out info_rt (by show 0 + 4 ≤ 4; omega) (by simp [Value.oneCell']) ?_; intro w9 hb9 ho9; have HB9 := Go.Lib.hid hb9; clear hb9))
        exact bodyPost_ret (v := .tuple #[.agg (rtL ⟨bnet, bbits, bzone, bmtu⟩).toArray, .bool true]) (results_ct13 (p := 4) (u := 5) rfl _ _ w.heap.size _ _ rfl HB9.out Try.underlying26 rfl info_rt) rfl ⟨by rw [HQ.out], yo.trans (ho9.below (Nat.le_refl _))⟩
set_option maxRecDepth 100000 in
set_option maxHeartbeats 4000000 in
theorem rzone13 (l : List Rt) (A : Option Addr) (c N : Nat) (hN : l.length = N) (addr : Int) (ha : 0 ≤ addr ∧ addr ≤ 4294967295) (w : World) (h : RtsAt w l A c) (q : Int) (hq : zoneR l addr = q) :
    Calls Try.prog 13 #[.slice A N c, .int .u32 addr] w fun e w' => e = .returned (.int .i64 q) ∧ Below w.heap.size w w' := by
  obtain ⟨⟨r, o⟩, hf⟩ : ∃ q, findR l addr = q := ⟨_, rfl⟩
  have HF := Go.Lib.hid hf
  have HC := Go.Lib.hid h
  have HQ : Hid (q = if o then r.zone else -1) := Go.Lib.hid (by rw [← hq]; unfold zoneR; rw [hf])
  clear hf h hq
  cases o
  · go_enter Try.func13, Try.ntmps13
    go_wp2_with (go_at_call 9; refine (rfind13 l A c N hN addr ha w HC.out _ HF.out).mono ?_; rintro e w2 ⟨rfl, y2⟩; dsimp only)
    go_ret
    exact ⟨by rw [HQ.out]; rfl, below_alloc y2 y2.size _⟩
  · go_enter Try.func13, Try.ntmps13
    go_upto_region 2 with (go_at_call 9; refine (rfind13 l A c N hN addr ha w HC.out _ HF.out).mono ?_; rintro e w2 ⟨rfl, y2⟩; dsimp only)
    have y3 := below_alloc y2 y2.size (oRt r)
    have hb := Bxo.made w2 26 (rtL r)
    generalize w2.alloc (oRt r) = w3 at *
    generalize w2.heap.size = g at *
    have c2 := hb.cell 2 rfl
    clear hb
    go_wp2
    go_ret
    exact ⟨by rw [HQ.out]; rfl, y3⟩
end Go.Proofs.Ytalmknbcfgndkaa
