/- Lemmas, several texts in one. -/
import Derived.Test.YtoghcefamoefpaaGreatDoorQ10
import Derived.Test.YtoghcefamoefpaaGreatDoorQ09
/- The landed conf: Show. -/
namespace Go.Proofs.YtoghcefamoefpaaGreatDoor
open Go.ChangeShapes Go.WideShapes Go.ChangeAt Go.RowKit
set_option linter.unusedVariables false
set_option linter.unusedSimpArgs false

theorem linesT_app (a b : List Tx) : linesT (a ++ b) = linesT a ++ linesT b := by unfold linesT; rw [List.flatMap_append]
theorem take_lines {α : Type} (f : α → Tx) {l : List α} {k : Nat} (hk : k < l.length) {x : α} (hx : l[k] = x) (pre : List Tx) : linesT (pre ++ (l.take (k + 1)).map f) = linesT (pre ++ (l.take k).map f) ++ (f x ++ [10]) := by
  rw [List.take_add_one, List.getElem?_eq_getElem hk, hx, List.map_append, ← List.append_assoc, linesT_app _ ((Option.some x).toList.map f)]
  simp [linesT]
theorem lines_one (pre : List Tx) (x : Tx) : linesT (pre ++ [x]) = linesT pre ++ (x ++ [10]) := by
  rw [linesT_app]
  simp [linesT]
theorem lines_pre {c : Cf} (h : RightC c) (hr : RngC c) {p q : List Tx} (e : p ++ q = showLines c) : (linesT p).length ≤ 50000 := by
  have := show_len h hr
  unfold showP at this
  rw [← e, linesT_app, List.length_append] at this
  omega
theorem row4 (k a b c : Tx) : rowT [k, a, b, c] = (k ++ 32 :: (a ++ 32 :: (b ++ 32 :: c))) ++ [10] := by
  unfold rowT
  rw [Lib.join_cons]
  simp [Lib.joinTail]
theorem row3 (k a b : Tx) : rowT [k, a, b] = (k ++ 32 :: (a ++ 32 :: b)) ++ [10] := by
  unfold rowT
  rw [Lib.join_cons]
  simp [Lib.joinTail]
theorem row2 (k a : Tx) : rowT [k, a] = (k ++ 32 :: a) ++ [10] := by
  unfold rowT
  rw [Lib.join_cons]
  simp [Lib.joinTail]
theorem routeT_len {r : Rt} (hr : RngRt r) (h : okR r = true) : (routeT r).length ≤ 250 := by
  obtain ⟨h1, h2, h3, _⟩ := (okR_iff r).1 h
  have a1 := netT_len hr.net h1
  have a2 := numT_len (n := r.zone) ⟨by omega, by omega⟩
  have a3 := numT_len (n := r.mtu) ⟨by omega, by omega⟩
  unfold routeT
  simp only [List.length_append, List.length_cons, List.length_nil]
  omega
theorem publicT_len {c : Cf} (h1 : 0 ≤ c.pub ∧ c.pub ≤ 4294967295) (h2 : I64C c.lo) (h3 : I64C c.hi) : (publicT c).length ≤ 100 := by
  have a1 := addrT_len h1
  have a2 := numT_len h2
  have a3 := numT_len h3
  unfold publicT
  simp only [List.length_append, List.length_cons, List.length_nil]
  omega
theorem lifeT_len {c : Cf} (h2 : I64C c.tcp) (h3 : I64C c.other) : (lifeT c).length ≤ 100 := by
  have a2 := numT_len h2
  have a3 := numT_len h3
  unfold lifeT
  simp only [List.length_append, List.length_cons, List.length_nil]
  omega
set_option maxRecDepth 100000 in
set_option maxHeartbeats 16000000 in
theorem cshow15 : ShowC15 := by
  intro c p _ w h
  have hrg := h.rng
  obtain ⟨routes, rules, outside, pub, lo, hi, fwds, tcp, other, budget⟩ := c
  obtain ⟨A1, c1, A2, c2, A3, c3⟩ := p
  obtain ⟨q, hq⟩ : ∃ q, rightCf ⟨routes, rules, outside, pub, lo, hi, fwds, tcp, other, budget⟩ = q := ⟨_, rfl⟩
  have HQ := Go.Lib.hid hq
  have HC := Go.Lib.hid h
  have HRG := Go.Lib.hid hrg
  have hlc1 := h.routes.len
  have hcc1 := h.routes.cap
  have hlc2 := h.rules.len
  have hcc2 := h.rules.cap
  have hlc3 := h.fwds.len
  have hcc3 := h.fwds.cap
  dsimp only at hlc1 hcc1 hlc2 hcc2 hlc3 hcc3
  clear hq h hrg
  have y0 : Below w.heap.size w (w.alloc (oCf ⟨routes, rules, outside, pub, lo, hi, fwds, tcp, other, budget⟩ ⟨A1, c1, A2, c2, A3, c3⟩)) := (Below.refl _ _).alloc (Nat.le_refl _) _
  have hb := Bxo.made w 27 (cfL ⟨routes, rules, outside, pub, lo, hi, fwds, tcp, other, budget⟩ ⟨A1, c1, A2, c2, A3, c3⟩)
  go_enter Tryz.func7, Tryz.ntmps7
  go_upto_region 1 with fail
  generalize w.alloc (oCf ⟨routes, rules, outside, pub, lo, hi, fwds, tcp, other, budget⟩ ⟨A1, c1, A2, c2, A3, c3⟩) = W0 at *
  have y0s := y0.size
  obtain ⟨g1, hg1⟩ : ∃ g, w.heap.size = g := ⟨_, rfl⟩
  rw [hg1] at hb ⊢
  have HG0 := Go.Lib.hid hb
  clear hb
  cases q
  · have tok1 : True := trivial
    go_wp2_with (first
      | (go_at_call 10; refine (cright15n ⟨routes, rules, outside, pub, lo, hi, fwds, tcp, other, budget⟩ ⟨A1, c1, A2, c2, A3, c3⟩ _ (HC.out.at y0) _ HQ.out).mono ?_; rintro e w3 ⟨rfl, y3⟩; dsimp only)
      | (clear tok1; refine wpList_load_box rfl 27 _ rfl g1 rfl (cfL ⟨routes, rules, outside, pub, lo, hi, fwds, tcp, other, budget⟩ ⟨A1, c1, A2, c2, A3, c3⟩) _ HG0.out Tryz.underlying27 rfl info_cf ?_))
    go_ret2
    exact ⟨⟨_, _, rfl, (fun e => by rw [HQ.out] at e; cases e), fun _ => rfl⟩, y0.trans (y3.mono y0s)⟩
  have HRC := Go.Lib.hid ((rightCf_iff _).1 HQ.out)
  have tok1 : True := trivial
  go_upto_region 3 with (first
    | (go_at_call 10; refine (cright15n ⟨routes, rules, outside, pub, lo, hi, fwds, tcp, other, budget⟩ ⟨A1, c1, A2, c2, A3, c3⟩ _ (HC.out.at y0) _ HQ.out).mono ?_; rintro e w3 ⟨rfl, y3⟩; dsimp only)
    | (clear tok1; refine wpList_load_box rfl 27 _ rfl g1 rfl (cfL ⟨routes, rules, outside, pub, lo, hi, fwds, tcp, other, budget⟩ ⟨A1, c1, A2, c2, A3, c3⟩) _ HG0.out Tryz.underlying27 rfl info_cf ?_))
  have x3 := y0.trans (y3.mono y0s)
  have hnew := Wr.new w3
  have y4 : Below w3.heap.size w3 (w3.alloc (.cells #[.pointer none, .slice none 0 0] 44)) := (Below.refl _ _).alloc (Nat.le_refl _) _
  have hG3 := HG0.out.keep y3 HG0.out.lt
  have hgb := hG3.lt
  have hG := hG3.keep y4 hgb
  have x4 := x3.trans (y4.mono x3.size)
  have hwb := x3.size
  have hbW : w3.heap.size ≤ (w3.alloc (.cells #[.pointer none, .slice none 0 0] 44)).heap.size := y4.size
  go_upto_region 4 with fail
  generalize w3.alloc (.cells #[.pointer none, .slice none 0 0] 44) = W at *
  generalize w3.heap.size = b at *
  have HG := Go.Lib.hid hG
  have HN := Go.Lib.hid hnew
  have e0 := hG.cell 0 rfl
  dsimp only at e0
  clear hG hnew hG3
  go_wp2_with fail
  go_loopw [17] (fun iv wr => ∃ k : Nat, iv = .int .i64 k ∧ k ≤ routes.length ∧ Hid (Wr b (linesT ([] ++ (routes.take k).map routeT)) wr) ∧ Below b W wr) (fun iv _ => routes.length - (intOf iv).toNat)
  case atStart => exact ⟨0, rfl, by omega, HN, Below.refl _ _⟩
  case round =>
    rename World => wo
    clear e0
    obtain ⟨k, rfl, hk, HWo, yo⟩ := hrel
    have k0 : (0 : Int) ≤ (k : Int) := by omega
    have xo := x4.trans (yo.mono hwb)
    have hbo : b ≤ wo.heap.size := Nat.le_trans hbW yo.size
    by_cases hkl : k < routes.length
    · have t1 : (k : Int) < (routes.length : Int) := by omega
      have HLL : Hid ((linesT ([] ++ (routes.take k).map routeT)).length ≤ 50000) := Go.Lib.hid (lines_pre HRC.out HRG.out (q := (routes.drop k).map routeT ++ (rules.map ruleT ++ (outsideT ⟨routes, rules, outside, pub, lo, hi, fwds, tcp, other, budget⟩ :: publicT ⟨routes, rules, outside, pub, lo, hi, fwds, tcp, other, budget⟩ :: (fwds.map forwardT ++ [lifeT ⟨routes, rules, outside, pub, lo, hi, fwds, tcp, other, budget⟩, budgetT budget])))) (by
        unfold showLines
        rw [List.nil_append, ← List.append_assoc, ← List.map_append, List.take_append_drop]))
      obtain ⟨ad, rfl, hcell⟩ := HC.out.routes.cell hkl
      obtain ⟨r, hr⟩ : ∃ r, routes[k] = r := ⟨_, rfl⟩
      have HST := Go.Lib.hid (take_lines routeT hkl hr [])
      have HRR : Hid (RngRt r) := Go.Lib.hid (by rw [← hr]; exact HRG.out.routes _ (List.getElem_mem hkl))
      have HOK : Hid (okR r = true) := Go.Lib.hid (by rw [← hr]; exact ((rightR_iff _).1 HRC.out.routes).ok _ (List.getElem_mem hkl))
      dsimp only at hcell
      rw [hr] at hcell
      have HW := Go.Lib.hid (hcell wo xo)
      clear hcell hr
      have ya : Below wo.heap.size wo (wo.alloc (oRt r)) := (Below.refl _ _).alloc (Nat.le_refl _) _
      have x7 := xo.trans (ya.mono xo.size)
      have z7 : Below b W (wo.alloc (oRt r)) := yo.trans (ya.mono hbo)
      have hb7 : b ≤ (wo.alloc (oRt r)).heap.size := Nat.le_trans hbo ya.size
      have hbx := Bxo.made wo 46 (rtL r)
      have hwr := HWo.out.keep ya
      have HNE : Hid (wo.heap.size ≠ b) := Go.Lib.hid (by have := HWo.out.lt; omega)
      go_upto_region 7 with (refine wpList_load_at rfl 46 _ rfl (ad.add (k * 4)) rfl (rtL r) _ HW.out Tryz.underlying46 rfl info_rt ?_)
      generalize wo.alloc (oRt r) = W7 at *
      generalize wo.heap.size = g7 at *
      have HB := Go.Lib.hid (show Bxo W7 g7 46 (rtL r) from hbx)
      have HWR : Hid (Wr b (linesT ([] ++ (routes.take k).map routeT)) W7.drew) := Go.Lib.hid (hwr.keep (below_drew (Below.refl _ _)))
      obtain ⟨net, bits, zone, mtu⟩ := r
      have HOF := Go.Lib.hid ((okR_iff _).1 HOK.out)
      have HNB : Hid (0 ≤ net ∧ net ≤ 4294967295) := Go.Lib.hid HRR.out.net
      have HBB : Hid (0 ≤ bits ∧ bits ≤ 32) := Go.Lib.hid HOF.out.1
      have HZ : Hid (I64C zone) := Go.Lib.hid (by have := HOF.out.2.1; dsimp only at this; exact ⟨by omega, by omega⟩)
      have HM : Hid (I64C mtu) := Go.Lib.hid (by have := HOF.out.2.2.1; dsimp only at this; exact ⟨by omega, by omega⟩)
      clear hbx HW hwr
      try simp only [Act.put, List.setIfInBounds_toArray, List.set_cons_zero, List.set_cons_succ]
      refine wp_region_held_drew (S := fun Y => Bxo Y g7 46 (rtL ⟨net, bits, zone, mtu⟩) ∧ Below b W7 Y) (by kernel_rfl) ?_ (fun hHeld => ?_)
      · exact ⟨HB.out, below_drew (Below.refl _ _)⟩
      refine wpAnyH_take (i := 0) (oi := ⟨some 21, _, _, _, _, _⟩) (v := ?_) rfl (by kernel_rfl) (by kernel_rfl) (by kernel_rfl) (fun _ _ _ h => h) (Or.inl ⟨by rfl, ?_⟩) (by assumption) ?_
      rotate_left
      · intro w hSw; (try dsimp only at hSw); go_simp; (try with_reducible rfl)
      try simp only [Act.put, List.setIfInBounds_toArray, List.set_cons_zero, List.set_cons_succ]
      refine wpAnyH_take (i := 1) (oi := ⟨some 22, _, _, _, _, _⟩) (v := ?_) rfl (by kernel_rfl) (by kernel_rfl) (by kernel_rfl) (fun _ _ _ h => h) (Or.inl ⟨by rfl, ?_⟩) (by assumption) ?_
      rotate_left
      · intro w hSw; have c0 := hSw.1.cell 0 rfl; dsimp only at c0; (try dsimp only at hSw); go_simp; (try with_reducible rfl)
      try simp only [Act.put, List.setIfInBounds_toArray, List.set_cons_zero, List.set_cons_succ]
      refine wpAnyH_take (i := 2) (oi := ⟨some 23, _, _, _, _, _⟩) (v := ?_) rfl (by kernel_rfl) (by kernel_rfl) (by kernel_rfl) (fun _ _ _ h => h) (Or.inl ⟨by rfl, ?_⟩) (by assumption) ?_
      rotate_left
      · intro w hSw; (try dsimp only at hSw); go_simp; (try with_reducible rfl)
      try simp only [Act.put, List.setIfInBounds_toArray, List.set_cons_zero, List.set_cons_succ]
      refine wpAnyH_take (i := 3) (oi := ⟨some 24, _, _, _, _, _⟩) (v := ?_) rfl (by kernel_rfl) (by kernel_rfl) (by kernel_rfl) (fun _ _ _ h => h) (Or.inl ⟨by rfl, ?_⟩) (by assumption) ?_
      rotate_left
      · intro w hSw; have c1 := hSw.1.cell 1 rfl; dsimp only at c1; (try dsimp only at hSw); go_simp; (try with_reducible rfl)
      try simp only [Act.put, List.setIfInBounds_toArray, List.set_cons_zero, List.set_cons_succ]
      refine wpAnyH_take (i := 5) (oi := ⟨some 26, _, _, _, _, _⟩) (v := ?_) rfl (by kernel_rfl) (by kernel_rfl) (by kernel_rfl) (fun _ _ _ h => h) (Or.inl ⟨by rfl, ?_⟩) (by assumption) ?_
      rotate_left
      · intro w hSw; (try dsimp only at hSw); go_simp; (try with_reducible rfl)
      try simp only [Act.put, List.setIfInBounds_toArray, List.set_cons_zero, List.set_cons_succ]
      refine wpAnyH_take (i := 6) (oi := ⟨some 27, _, _, _, _, _⟩) (v := ?_) rfl (by kernel_rfl) (by kernel_rfl) (by kernel_rfl) (fun _ _ _ h => h) (Or.inl ⟨by rfl, ?_⟩) (by assumption) ?_
      rotate_left
      · intro w hSw; have c2 := hSw.1.cell 2 rfl; dsimp only at c2; (try dsimp only at hSw); go_simp; (try with_reducible rfl)
      try simp only [Act.put, List.setIfInBounds_toArray, List.set_cons_zero, List.set_cons_succ]
      refine wpAnyH_take (i := 8) (oi := ⟨some 29, _, _, _, _, _⟩) (v := ?_) rfl (by kernel_rfl) (by kernel_rfl) (by kernel_rfl) (fun _ _ _ h => h) (Or.inl ⟨by rfl, ?_⟩) (by assumption) ?_
      rotate_left
      · intro w hSw; (try dsimp only at hSw); go_simp; (try with_reducible rfl)
      try simp only [Act.put, List.setIfInBounds_toArray, List.set_cons_zero, List.set_cons_succ]
      refine wpAnyH_take (i := 9) (oi := ⟨some 30, _, _, _, _, _⟩) (v := ?_) rfl (by kernel_rfl) (by kernel_rfl) (by kernel_rfl) (fun _ _ _ h => h) (Or.inl ⟨by rfl, ?_⟩) (by assumption) ?_
      rotate_left
      · intro w hSw; have c3 := hSw.1.cell 3 rfl; dsimp only at c3; (try dsimp only at hSw); go_simp; (try with_reducible rfl)
      try simp only [Act.put, List.setIfInBounds_toArray, List.set_cons_zero, List.set_cons_succ]
      refine wpAnyH_ready (rs := [4]) (by kernel_rfl) (by simp) (AllReadyH.cons (o := ⟨some 25, _, _, _, _, _⟩) rfl (fun Kc hKc => ?_) AllReadyH.nil)
      go_simp
      go_at_call 14; refine (cnetT15 net bits HNB.out HBB.out _ (HC.out.tb.at (x7.trans (hHeld.2.mono hwb)))).mono ?_; rintro e wa ⟨⟨s1, rfl, hs1, zs1⟩, ywa⟩; dsimp only; have HWR := Go.Lib.hid (HWR.out.keep ywa)
      refine hKc.out _ _ (⟨hHeld.1.keep ywa hHeld.1.lt, hHeld.2.trans (ywa.mono (Nat.le_trans hb7 hHeld.2.size))⟩) (fun hHeld => ?_)
      clear hKc Kc
      try simp only [Act.put, List.setIfInBounds_toArray, List.set_cons_zero, List.set_cons_succ]
      refine wpAnyH_ready (rs := [7]) (by kernel_rfl) (by simp) (AllReadyH.cons (o := ⟨some 28, _, _, _, _, _⟩) rfl (fun Kc hKc => ?_) AllReadyH.nil)
      go_simp
      go_at_call 15; refine (citoa15 zone HZ.out _ (HC.out.tb.at (x7.trans (hHeld.2.mono hwb)))).mono ?_; rintro e wc ⟨⟨n1, rfl, hn1⟩, ywc⟩; dsimp only; have HWR := Go.Lib.hid (HWR.out.keep ywc)
      refine hKc.out _ _ (⟨hHeld.1.keep ywc hHeld.1.lt, hHeld.2.trans (ywc.mono (Nat.le_trans hb7 hHeld.2.size))⟩) (fun hHeld => ?_)
      clear hKc Kc
      try simp only [Act.put, List.setIfInBounds_toArray, List.set_cons_zero, List.set_cons_succ]
      refine wpAnyH_ready (rs := [10]) (by kernel_rfl) (by simp) (AllReadyH.cons (o := ⟨some 31, _, _, _, _, _⟩) rfl (fun Kc hKc => ?_) AllReadyH.nil)
      go_simp
      go_at_call 15; refine (citoa15 mtu HM.out _ (HC.out.tb.at (x7.trans (hHeld.2.mono hwb)))).mono ?_; rintro e wd ⟨⟨n2, rfl, hn2⟩, ywd⟩; dsimp only; have HWR := Go.Lib.hid (HWR.out.keep ywd)
      refine hKc.out _ _ (⟨hHeld.1.keep ywd hHeld.1.lt, hHeld.2.trans (ywd.mono (Nat.le_trans hb7 hHeld.2.size))⟩) (fun hHeld => ?_)
      clear hKc Kc
      try simp only [Act.put, List.setIfInBounds_toArray, List.set_cons_zero, List.set_cons_succ]
      refine wpAnyH_ready (rs := [11]) (by kernel_rfl) (by simp) (AllReadyH.cons (o := ⟨some 32, _, _, _, _, _⟩) rfl (fun Kc hKc => ?_) AllReadyH.nil)
      go_simp
      have yB : Below wd.heap.size wd (wd.alloc (.cells #[.string { data := #[114, 111, 117, 116, 101] }, .string s1, .string n1, .string n2] 9)) := (Below.refl _ _).alloc (Nat.le_refl _) _; have HROW : Hid (∀ (j : Nat) x, ([{ data := #[114, 111, 117, 116, 101] }, s1, n1, n2] : List ByteArray)[j]? = some x → (wd.alloc (.cells #[.string { data := #[114, 111, 117, 116, 101] }, .string s1, .string n1, .string n2] 9)).cell? ⟨wd.heap.size, 0 + j, none⟩ = some (.string x)) := Go.Lib.hid (row_new wd [{ data := #[114, 111, 117, 116, 101] }, s1, n1, n2] 9); have HLT : Hid (wd.heap.size < (wd.alloc (.cells #[.string { data := #[114, 111, 117, 116, 101] }, .string s1, .string n1, .string n2] 9)).heap.size) := Go.Lib.hid (by simp); have HWR := Go.Lib.hid (HWR.out.keep yB); generalize wd.alloc (.cells #[.string { data := #[114, 111, 117, 116, 101] }, .string s1, .string n1, .string n2] 9) = wB at *
      refine hKc.out _ _ (⟨hHeld.1.keep yB hHeld.1.lt, hHeld.2.trans (yB.mono (Nat.le_trans hb7 hHeld.2.size))⟩) (fun hHeld => ?_)
      clear hKc Kc
      try simp only [Act.put, List.setIfInBounds_toArray, List.set_cons_zero, List.set_cons_succ]
      refine wpAnyH_ready (rs := [12]) (by kernel_rfl) (by simp) (AllReadyH.cons (o := ⟨some 33, _, _, _, _, _⟩) rfl (fun Kc hKc => ?_) AllReadyH.nil)
      go_simp
      go_at_call 13; refine (crowz15 wd.heap.size 4 4 [{ data := #[114, 111, 117, 116, 101] }, s1, n1, n2] rfl _ HROW.out HLT.out (by omega) (by omega) (routeT ⟨net, bits, zone, mtu⟩) (by show rowT [kRoute, txB s1, txB n1, txB n2] = _; rw [hs1, hn1, hn2]; exact row4 _ _ _ _) (by have := routeT_len HRR.out HOK.out; omega)).mono ?_; rintro e we ⟨⟨s9, rfl, hs9, zs9⟩, ye⟩; dsimp only; have HWR := Go.Lib.hid (HWR.out.keep ye)
      refine hKc.out _ _ (⟨hHeld.1.keep ye hHeld.1.lt, hHeld.2.trans (ye.mono (Nat.le_trans hb7 hHeld.2.size))⟩) (fun hHeld => ?_)
      clear hKc Kc
      try simp only [Act.put, List.setIfInBounds_toArray, List.set_cons_zero, List.set_cons_succ]
      refine wpAnyH_ready (rs := [13]) (by kernel_rfl) (by simp) (AllReadyH.cons (o := ⟨some 34, _, _, _, _, _⟩) rfl (fun Kc hKc => ?_) AllReadyH.nil)
      go_simp
      go_at_call 12; refine (cwrite15 b (linesT ([] ++ (routes.take k).map routeT)) s9 _ HWR.out (by have := routeT_len HRR.out HOK.out; have := HLL.out; omega) (Nat.le_trans hb7 hHeld.2.size)).mono ?_; rintro e wz ⟨rfl, hwz, yz, kz⟩; have HWZ := Go.Lib.hid hwz; clear hwz; dsimp only
      refine hKc.out _ _ (⟨kz _ _ hHeld.1 (fun e => HNE.out (by injection e with e)) (fun c fz e => by injection e with _ e2 _; exact absurd e2 (by decide)), hHeld.2.trans yz⟩) (fun hHeld => ?_)
      clear hKc Kc
      try simp only [Act.put, List.setIfInBounds_toArray, List.set_cons_zero, List.set_cons_succ]
      refine wpAnyH_done (by kernel_rfl) ?_ _
      have yq := hHeld.2
      clear hHeld
      have hwz : Wr b (linesT ([] ++ (routes.take (k + 1)).map routeT)) wz := by
        have q := HWZ.out
        rw [hs9] at q
        rw [HST.out]
        exact q
      go_wp2
      go_round
      case rel => exact ⟨k + 1, by go_num, by omega, Go.Lib.hid hwz, z7.trans yq⟩
      case measure => simp [intOf]; omega
    · obtain rfl : k = routes.length := by omega
      have t1 : ¬ (routes.length : Int) < (routes.length : Int) := by omega
      have HN1 : Hid (Wr b (linesT (routes.map routeT ++ ([] : List Tx))) wo) := Go.Lib.hid (by have q := HWo.out; rw [List.take_length, List.nil_append] at q; rw [List.append_nil]; exact q)
      have HG1 := Go.Lib.hid (HG.out.keep yo hgb)
      have e1 := HG1.out.cell 1 rfl
      dsimp only at e1
      clear HWo HN HG
      rename World => W1
      go_wp2_with fail
      go_loopw [39] (fun iv wr => ∃ k : Nat, iv = .int .i64 k ∧ k ≤ rules.length ∧ Hid (Wr b (linesT (routes.map routeT ++ (rules.take k).map ruleT)) wr) ∧ Below b W1 wr) (fun iv _ => rules.length - (intOf iv).toNat)
      case atStart => exact ⟨0, rfl, by omega, HN1, Below.refl _ _⟩
      case round =>
        rename World => wo
        clear e1
        obtain ⟨k, rfl, hk, HWo, yo2⟩ := hrel
        have k0 : (0 : Int) ≤ (k : Int) := by omega
        have hbW1 : b ≤ W1.heap.size := hbo
        have xo2 := xo.trans (yo2.mono hwb)
        have hbo2 : b ≤ wo.heap.size := Nat.le_trans hbW1 yo2.size
        by_cases hkl : k < rules.length
        · have t2 : (k : Int) < (rules.length : Int) := by omega
          have HLL : Hid ((linesT (routes.map routeT ++ (rules.take k).map ruleT)).length ≤ 50000) := Go.Lib.hid (lines_pre HRC.out HRG.out (q := (rules.drop k).map ruleT ++ (outsideT ⟨routes, rules, outside, pub, lo, hi, fwds, tcp, other, budget⟩ :: publicT ⟨routes, rules, outside, pub, lo, hi, fwds, tcp, other, budget⟩ :: (fwds.map forwardT ++ [lifeT ⟨routes, rules, outside, pub, lo, hi, fwds, tcp, other, budget⟩, budgetT budget]))) (by
            unfold showLines
            rw [List.append_assoc, ← List.append_assoc ((rules.take k).map ruleT), ← List.map_append, List.take_append_drop]))
          obtain ⟨ad, rfl, hcell⟩ := HC.out.rules.cell hkl
          obtain ⟨r, hr⟩ : ∃ r, rules[k] = r := ⟨_, rfl⟩
          have HST := Go.Lib.hid (take_lines ruleT hkl hr (routes.map routeT))
          have HRR : Hid (RngRu r) := Go.Lib.hid (by rw [← hr]; exact HRG.out.rules _ (List.getElem_mem hkl))
          have HOK : Hid (OkU r) := Go.Lib.hid (by rw [← hr]; exact (okU_iff _).1 (((rightU_iff _).1 HRC.out.rules).2 _ (List.getElem_mem hkl)))
          dsimp only at hcell
          rw [hr] at hcell
          have HW := Go.Lib.hid (hcell wo xo2)
          clear hcell hr
          have ya : Below wo.heap.size wo (wo.alloc (oRu r)) := (Below.refl _ _).alloc (Nat.le_refl _) _
          have x8 := xo2.trans (ya.mono xo2.size)
          have z8 : Below b W1 (wo.alloc (oRu r)) := yo2.trans (ya.mono hbo2)
          have hb8 : b ≤ (wo.alloc (oRu r)).heap.size := Nat.le_trans hbo2 ya.size
          have hbx := Bxo.made wo 54 (ruL r)
          have HWR := Go.Lib.hid (HWo.out.keep ya)
          go_upto_region 12 with (refine wpList_load_at rfl 54 _ rfl (ad.add (k * 10)) rfl (ruL r) _ HW.out Tryz.underlying54 rfl info_ru ?_)
          generalize wo.alloc (oRu r) = W8 at *
          generalize wo.heap.size = g8 at *
          have HB := Go.Lib.hid (show Bxo W8 g8 54 (ruL r) from hbx)
          clear hbx HW
          have tok2 : True := trivial
          go_wp2_with (first
            | (go_at_call 16; refine (cruleT15 r HRR.out HOK.out _ (HC.out.tb.at x8)).mono ?_; rintro e we ⟨⟨s9, rfl, hs9, zs9⟩, ye⟩; have HWR := Go.Lib.hid (HWR.out.keep ye); dsimp only)
            | (go_at_call 12; refine (cwrite15 b (linesT (routes.map routeT ++ (rules.take k).map ruleT)) s9 _ HWR.out (by have := HLL.out; omega) (Nat.le_trans hb8 ye.size)).mono ?_; rintro e wz ⟨rfl, hwz, yz, kz⟩; have HWZ := Go.Lib.hid hwz; clear hwz; dsimp only)
            | (clear tok2; refine wpList_load_box rfl 54 _ rfl g8 rfl (ruL r) _ HB.out Tryz.underlying54 rfl info_ru ?_))
          have hwz : Wr b (linesT (routes.map routeT ++ (rules.take (k + 1)).map ruleT)) wz := by
            have q := HWZ.out
            rw [hs9] at q
            rw [HST.out]
            exact q
          go_round
          case rel => exact ⟨k + 1, by go_num, by omega, Go.Lib.hid hwz, z8.trans ((ye.mono hb8).trans yz)⟩
          case measure => simp [intOf]; omega
        · obtain rfl : k = rules.length := by omega
          have t2 : ¬ (rules.length : Int) < (rules.length : Int) := by omega
          obtain ⟨PR, hPR⟩ : ∃ PR, routes.map routeT ++ rules.map ruleT = PR := ⟨_, rfl⟩
          have HPR := Go.Lib.hid hPR
          have HN2 : Hid (Wr b (linesT PR) wo) := Go.Lib.hid (by have q := HWo.out; rw [List.take_length, hPR] at q; exact q)
          have HG2 := Go.Lib.hid (HG1.out.keep yo2 hgb)
          have HL1 : Hid ((linesT PR).length ≤ 50000) := Go.Lib.hid (lines_pre HRC.out HRG.out (q := outsideT ⟨routes, rules, outside, pub, lo, hi, fwds, tcp, other, budget⟩ :: publicT ⟨routes, rules, outside, pub, lo, hi, fwds, tcp, other, budget⟩ :: (fwds.map forwardT ++ [lifeT ⟨routes, rules, outside, pub, lo, hi, fwds, tcp, other, budget⟩, budgetT budget])) (by rw [← hPR]; unfold showLines; rw [List.append_assoc]))
          have HL2 : Hid ((linesT (PR ++ [outsideT ⟨routes, rules, outside, pub, lo, hi, fwds, tcp, other, budget⟩])).length ≤ 50000) := Go.Lib.hid (lines_pre HRC.out HRG.out (q := publicT ⟨routes, rules, outside, pub, lo, hi, fwds, tcp, other, budget⟩ :: (fwds.map forwardT ++ [lifeT ⟨routes, rules, outside, pub, lo, hi, fwds, tcp, other, budget⟩, budgetT budget])) (by rw [← hPR]; unfold showLines; simp))
          have HIo : Hid (I64C outside) := Go.Lib.hid (by have := HRC.out.outside; dsimp only at this; exact ⟨by omega, by omega⟩)
          have HLo : Hid (I64C lo) := Go.Lib.hid (by have h1 := HRC.out.lo; have h2 := HRC.out.span; have h3 := HRC.out.hi; dsimp only at h1 h2 h3; exact ⟨by omega, by omega⟩)
          have HHi : Hid (I64C hi) := Go.Lib.hid (by have h1 := HRC.out.lo; have h2 := HRC.out.span; have h3 := HRC.out.hi; dsimp only at h1 h2 h3; exact ⟨by omega, by omega⟩)
          have HTc : Hid (I64C tcp) := Go.Lib.hid (by have := HRC.out.tcp; dsimp only at this; exact ⟨by omega, by omega⟩)
          have HOt : Hid (I64C other) := Go.Lib.hid (by have := HRC.out.other; dsimp only at this; exact ⟨by omega, by omega⟩)
          have HBu : Hid (I64C budget) := Go.Lib.hid (by have := HRC.out.budget; dsimp only at this; exact ⟨by omega, by omega⟩)
          have HPu : Hid (0 ≤ pub ∧ pub ≤ 4294967295) := Go.Lib.hid HRG.out.pub
          have f2 := HG2.out.cell 2 rfl
          dsimp only at f2
          clear hPR HWo HN1 HG1
          rename World => W2
          go_upto_region 15 with (first
            | (go_at_call 15; refine (citoa15 outside HIo.out _ (HC.out.tb.at xo2)).mono ?_; rintro e we ⟨⟨n1, rfl, hn1⟩, ye⟩; have HWR := Go.Lib.hid (HN2.out.keep ye); dsimp only)
            | (go_at_call 13; refine (crowz15 we.heap.size 2 2 [{ data := #[111, 117, 116, 115, 105, 100, 101] }, n1] rfl _ (row_new we [{ data := #[111, 117, 116, 115, 105, 100, 101] }, n1] 9) (by simp) (by omega) (by omega) (outsideT ⟨routes, rules, outside, pub, lo, hi, fwds, tcp, other, budget⟩) (by show rowT [kOutside, txB n1] = _; rw [hn1]; exact row2 _ _) (by have := numT_len HIo.out; show (kOutside ++ 32 :: numT outside).length ≤ _; simp only [List.length_append, List.length_cons, List.length_nil]; omega)).mono ?_; rintro e wf ⟨⟨s9, rfl, hs9, zs9⟩, yf⟩; have yB : Below we.heap.size we wf := ((Below.refl we.heap.size we).alloc (Nat.le_refl _) _).trans (yf.mono (by simp)); have HWR := Go.Lib.hid (HWR.out.keep yB); have zs : s9.size ≤ 100 := (by have := numT_len HIo.out; have q : (outsideT ⟨routes, rules, outside, pub, lo, hi, fwds, tcp, other, budget⟩).length ≤ 40 := (by show (kOutside ++ 32 :: numT outside).length ≤ _; simp only [List.length_append, List.length_cons, List.length_nil]; omega); omega); dsimp only)
            | (go_at_call 12; refine (cwrite15 b (linesT PR) s9 _ HWR.out (by have := HL1.out; omega) (Nat.le_trans hbo2 (Nat.le_trans ye.size yB.size))).mono ?_; rintro e wz ⟨rfl, hwz, yz, kz⟩; have HWZ := Go.Lib.hid hwz; have yw : Below b W2 wz := (ye.mono hbo2).trans ((yB.mono (Nat.le_trans hbo2 ye.size)).trans yz); clear hwz kz; dsimp only))
          obtain ⟨PA, hPA⟩ : ∃ PA, PR ++ [outsideT ⟨routes, rules, outside, pub, lo, hi, fwds, tcp, other, budget⟩] = PA := ⟨_, rfl⟩
          have hn3 : Wr b (linesT PA) wz.drew := by
            have q := HWZ.out
            rw [hs9, ← lines_one, hPA] at q
            exact q.keep (below_drew (Below.refl _ _))
          have HPA := Go.Lib.hid hPA
          have HLA : Hid ((linesT PA).length ≤ 50000) := Go.Lib.hid (by rw [← hPA]; exact HL2.out)
          have x3 := xo2.trans (yw.mono hwb)
          have hb3 : b ≤ wz.heap.size := Nat.le_trans hbo2 yw.size
          have HWR := Go.Lib.hid hn3
          have HG3 := Go.Lib.hid (HG2.out.keep yw hgb)
          clear hn3 hPA f2 hs9 zs9 zs HN2 HG2 hn1 HWZ
          rename World => W3
          try simp only [Act.put, List.setIfInBounds_toArray, List.set_cons_zero, List.set_cons_succ]
          refine wp_region_held_drew (S := fun Y => Below b W3 Y) (by kernel_rfl) ?_ (fun hHeld => ?_)
          · exact below_drew (Below.refl _ _)
          refine wpAnyH_take (i := 0) (oi := ⟨some 53, _, _, _, _, _⟩) (v := ?_) rfl (by kernel_rfl) (by kernel_rfl) (by kernel_rfl) (fun _ _ _ h => h) (Or.inl ⟨by rfl, ?_⟩) (by assumption) ?_
          rotate_left
          · intro w hSw; (try dsimp only at hSw); go_simp; (try with_reducible rfl)
          try simp only [Act.put, List.setIfInBounds_toArray, List.set_cons_zero, List.set_cons_succ]
          refine wpAnyH_take (i := 1) (oi := ⟨some 54, _, _, _, _, _⟩) (v := ?_) rfl (by kernel_rfl) (by kernel_rfl) (by kernel_rfl) (fun _ _ _ h => h) (Or.inl ⟨by rfl, ?_⟩) (by assumption) ?_
          rotate_left
          · intro w hSw; have c3 := (HG3.out.keep hSw hgb).cell 3 rfl; dsimp only at c3; (try dsimp only at hSw); go_simp; (try with_reducible rfl)
          try simp only [Act.put, List.setIfInBounds_toArray, List.set_cons_zero, List.set_cons_succ]
          refine wpAnyH_take (i := 3) (oi := ⟨some 56, _, _, _, _, _⟩) (v := ?_) rfl (by kernel_rfl) (by kernel_rfl) (by kernel_rfl) (fun _ _ _ h => h) (Or.inl ⟨by rfl, ?_⟩) (by assumption) ?_
          rotate_left
          · intro w hSw; (try dsimp only at hSw); go_simp; (try with_reducible rfl)
          try simp only [Act.put, List.setIfInBounds_toArray, List.set_cons_zero, List.set_cons_succ]
          refine wpAnyH_take (i := 4) (oi := ⟨some 57, _, _, _, _, _⟩) (v := ?_) rfl (by kernel_rfl) (by kernel_rfl) (by kernel_rfl) (fun _ _ _ h => h) (Or.inl ⟨by rfl, ?_⟩) (by assumption) ?_
          rotate_left
          · intro w hSw; have c4 := (HG3.out.keep hSw hgb).cell 4 rfl; dsimp only at c4; (try dsimp only at hSw); go_simp; (try with_reducible rfl)
          try simp only [Act.put, List.setIfInBounds_toArray, List.set_cons_zero, List.set_cons_succ]
          refine wpAnyH_take (i := 6) (oi := ⟨some 59, _, _, _, _, _⟩) (v := ?_) rfl (by kernel_rfl) (by kernel_rfl) (by kernel_rfl) (fun _ _ _ h => h) (Or.inl ⟨by rfl, ?_⟩) (by assumption) ?_
          rotate_left
          · intro w hSw; (try dsimp only at hSw); go_simp; (try with_reducible rfl)
          try simp only [Act.put, List.setIfInBounds_toArray, List.set_cons_zero, List.set_cons_succ]
          refine wpAnyH_take (i := 7) (oi := ⟨some 60, _, _, _, _, _⟩) (v := ?_) rfl (by kernel_rfl) (by kernel_rfl) (by kernel_rfl) (fun _ _ _ h => h) (Or.inl ⟨by rfl, ?_⟩) (by assumption) ?_
          rotate_left
          · intro w hSw; have c5 := (HG3.out.keep hSw hgb).cell 5 rfl; dsimp only at c5; (try dsimp only at hSw); go_simp; (try with_reducible rfl)
          try simp only [Act.put, List.setIfInBounds_toArray, List.set_cons_zero, List.set_cons_succ]
          refine wpAnyH_ready (rs := [2]) (by kernel_rfl) (by simp) (AllReadyH.cons (o := ⟨some 55, _, _, _, _, _⟩) rfl (fun Kc hKc => ?_) AllReadyH.nil)
          go_simp
          go_at_call 17; refine (caddrT15 pub HPu.out _ (HC.out.tb.at (x3.trans (hHeld.mono hwb)))).mono ?_; rintro e wa ⟨⟨n0, rfl, hn0, zn0⟩, ywa⟩; dsimp only; have HWR := Go.Lib.hid (HWR.out.keep ywa)
          refine hKc.out _ _ (hHeld.trans (ywa.mono (Nat.le_trans hb3 hHeld.size))) (fun hHeld => ?_)
          clear hKc Kc
          try simp only [Act.put, List.setIfInBounds_toArray, List.set_cons_zero, List.set_cons_succ]
          refine wpAnyH_ready (rs := [5]) (by kernel_rfl) (by simp) (AllReadyH.cons (o := ⟨some 58, _, _, _, _, _⟩) rfl (fun Kc hKc => ?_) AllReadyH.nil)
          go_simp
          go_at_call 15; refine (citoa15 lo HLo.out _ (HC.out.tb.at (x3.trans (hHeld.mono hwb)))).mono ?_; rintro e wc ⟨⟨n1, rfl, hn1⟩, ywc⟩; dsimp only; have HWR := Go.Lib.hid (HWR.out.keep ywc)
          refine hKc.out _ _ (hHeld.trans (ywc.mono (Nat.le_trans hb3 hHeld.size))) (fun hHeld => ?_)
          clear hKc Kc
          try simp only [Act.put, List.setIfInBounds_toArray, List.set_cons_zero, List.set_cons_succ]
          refine wpAnyH_ready (rs := [8]) (by kernel_rfl) (by simp) (AllReadyH.cons (o := ⟨some 61, _, _, _, _, _⟩) rfl (fun Kc hKc => ?_) AllReadyH.nil)
          go_simp
          go_at_call 15; refine (citoa15 hi HHi.out _ (HC.out.tb.at (x3.trans (hHeld.mono hwb)))).mono ?_; rintro e wd ⟨⟨n2, rfl, hn2⟩, ywd⟩; dsimp only; have HWR := Go.Lib.hid (HWR.out.keep ywd)
          refine hKc.out _ _ (hHeld.trans (ywd.mono (Nat.le_trans hb3 hHeld.size))) (fun hHeld => ?_)
          clear hKc Kc
          try simp only [Act.put, List.setIfInBounds_toArray, List.set_cons_zero, List.set_cons_succ]
          refine wpAnyH_ready (rs := [9]) (by kernel_rfl) (by simp) (AllReadyH.cons (o := ⟨some 62, _, _, _, _, _⟩) rfl (fun Kc hKc => ?_) AllReadyH.nil)
          go_simp
          have yB : Below wd.heap.size wd (wd.alloc (.cells #[.string { data := #[112, 117, 98, 108, 105, 99] }, .string n0, .string n1, .string n2] 9)) := (Below.refl _ _).alloc (Nat.le_refl _) _; have HROW : Hid (∀ (j : Nat) x, ([{ data := #[112, 117, 98, 108, 105, 99] }, n0, n1, n2] : List ByteArray)[j]? = some x → (wd.alloc (.cells #[.string { data := #[112, 117, 98, 108, 105, 99] }, .string n0, .string n1, .string n2] 9)).cell? ⟨wd.heap.size, 0 + j, none⟩ = some (.string x)) := Go.Lib.hid (row_new wd [{ data := #[112, 117, 98, 108, 105, 99] }, n0, n1, n2] 9); have HLT : Hid (wd.heap.size < (wd.alloc (.cells #[.string { data := #[112, 117, 98, 108, 105, 99] }, .string n0, .string n1, .string n2] 9)).heap.size) := Go.Lib.hid (by simp); have HWR := Go.Lib.hid (HWR.out.keep yB); generalize wd.alloc (.cells #[.string { data := #[112, 117, 98, 108, 105, 99] }, .string n0, .string n1, .string n2] 9) = wB at *
          refine hKc.out _ _ (hHeld.trans (yB.mono (Nat.le_trans hb3 hHeld.size))) (fun hHeld => ?_)
          clear hKc Kc
          try simp only [Act.put, List.setIfInBounds_toArray, List.set_cons_zero, List.set_cons_succ]
          refine wpAnyH_ready (rs := [10]) (by kernel_rfl) (by simp) (AllReadyH.cons (o := ⟨some 63, _, _, _, _, _⟩) rfl (fun Kc hKc => ?_) AllReadyH.nil)
          go_simp
          go_at_call 13; refine (crowz15 wd.heap.size 4 4 [{ data := #[112, 117, 98, 108, 105, 99] }, n0, n1, n2] rfl _ HROW.out HLT.out (by omega) (by omega) (publicT ⟨routes, rules, outside, pub, lo, hi, fwds, tcp, other, budget⟩) (by show rowT [kPublic, txB n0, txB n1, txB n2] = _; rw [hn0, hn1, hn2]; exact row4 _ _ _ _) (by have := (show (publicT ⟨routes, rules, outside, pub, lo, hi, fwds, tcp, other, budget⟩).length ≤ 100 from publicT_len HPu.out HLo.out HHi.out); omega)).mono ?_; rintro e we ⟨⟨s9, rfl, hs9, zs9⟩, ye⟩; dsimp only; have HWR := Go.Lib.hid (HWR.out.keep ye)
          refine hKc.out _ _ (hHeld.trans (ye.mono (Nat.le_trans hb3 hHeld.size))) (fun hHeld => ?_)
          clear hKc Kc
          try simp only [Act.put, List.setIfInBounds_toArray, List.set_cons_zero, List.set_cons_succ]
          refine wpAnyH_ready (rs := [11]) (by kernel_rfl) (by simp) (AllReadyH.cons (o := ⟨some 64, _, _, _, _, _⟩) rfl (fun Kc hKc => ?_) AllReadyH.nil)
          go_simp
          go_at_call 12; refine (cwrite15 b (linesT PA) s9 _ HWR.out (by have := (show (publicT ⟨routes, rules, outside, pub, lo, hi, fwds, tcp, other, budget⟩).length ≤ 100 from publicT_len HPu.out HLo.out HHi.out); have := HLA.out; omega) (Nat.le_trans hb3 hHeld.size)).mono ?_; rintro e wz ⟨rfl, hwz, yz, kz⟩; have HWZ := Go.Lib.hid hwz; clear hwz; dsimp only
          refine hKc.out _ _ (hHeld.trans yz) (fun hHeld => ?_)
          clear hKc Kc
          try simp only [Act.put, List.setIfInBounds_toArray, List.set_cons_zero, List.set_cons_succ]
          refine wpAnyH_done (by kernel_rfl) ?_ _
          have yq := hHeld
          clear hHeld
          obtain ⟨PQ, hPQ⟩ : ∃ PQ, PA ++ [publicT ⟨routes, rules, outside, pub, lo, hi, fwds, tcp, other, budget⟩] = PQ := ⟨_, rfl⟩
          have hn4 : Wr b (linesT PQ) wz := by
            have q := HWZ.out
            rw [hs9, ← lines_one, hPQ] at q
            exact q
          have HPQ := Go.Lib.hid hPQ
          have x4w := x3.trans (yq.mono hwb)
          have hb4 : b ≤ wz.heap.size := Nat.le_trans hb3 yq.size
          have HN4 := Go.Lib.hid hn4
          have HG4 := Go.Lib.hid (HG3.out.keep yq hgb)
          have f6 := HG4.out.cell 6 rfl
          dsimp only at f6
          have HSH : Hid (PQ ++ (fwds.map forwardT ++ [lifeT ⟨routes, rules, outside, pub, lo, hi, fwds, tcp, other, budget⟩, budgetT budget]) = showLines ⟨routes, rules, outside, pub, lo, hi, fwds, tcp, other, budget⟩) := Go.Lib.hid (by rw [← hPQ, ← HPA.out, ← HPR.out]; unfold showLines; simp)
          clear hn4 hPQ HWZ HWR hs9 zs9 HG3
          rename World => W4
          go_wp2_with fail
          go_loopw [68] (fun iv wr => ∃ k : Nat, iv = .int .i64 k ∧ k ≤ fwds.length ∧ Hid (Wr b (linesT (PQ ++ (fwds.take k).map forwardT)) wr) ∧ Below b W4 wr) (fun iv _ => fwds.length - (intOf iv).toNat)
          case atStart => exact ⟨0, rfl, by omega, Go.Lib.hid (by rw [List.take_zero, List.map_nil, List.append_nil]; exact HN4.out), Below.refl _ _⟩
          case round =>
            rename World => wo
            clear f6
            obtain ⟨k, rfl, hk, HWo, yo4⟩ := hrel
            have k0 : (0 : Int) ≤ (k : Int) := by omega
            have xo4 := x4w.trans (yo4.mono hwb)
            have hbo4 : b ≤ wo.heap.size := Nat.le_trans hb4 yo4.size
            by_cases hkl : k < fwds.length
            · have t3 : (k : Int) < (fwds.length : Int) := by omega
              have HLM : Hid ((linesT (PQ ++ (fwds.take k).map forwardT)).length ≤ 50000) := Go.Lib.hid (lines_pre HRC.out HRG.out (q := (fwds.drop k).map forwardT ++ [lifeT ⟨routes, rules, outside, pub, lo, hi, fwds, tcp, other, budget⟩, budgetT budget]) (by
                rw [← HSH.out, List.append_assoc, ← List.append_assoc ((fwds.take k).map forwardT), ← List.map_append, List.take_append_drop]))
              obtain ⟨ad, rfl, hcell⟩ := HC.out.fwds.cell hkl
              obtain ⟨r, hr⟩ : ∃ r, fwds[k] = r := ⟨_, rfl⟩
              have HST := Go.Lib.hid (take_lines forwardT hkl hr PQ)
              have HRR : Hid (RngFw r) := Go.Lib.hid (by rw [← hr]; exact HC.out.fwds.rng _ (List.getElem_mem hkl))
              have HOK : Hid (OkF lo hi r) := Go.Lib.hid (by rw [← hr]; exact HRC.out.fwds.ok _ (List.getElem_mem hkl))
              dsimp only at hcell
              rw [hr] at hcell
              have HW := Go.Lib.hid (hcell wo xo4)
              clear hcell hr
              have ya : Below wo.heap.size wo (wo.alloc (oFw r)) := (Below.refl _ _).alloc (Nat.le_refl _) _
              have x9 := xo4.trans (ya.mono xo4.size)
              have z9 : Below b W4 (wo.alloc (oFw r)) := yo4.trans (ya.mono hbo4)
              have hb9 : b ≤ (wo.alloc (oFw r)).heap.size := Nat.le_trans hbo4 ya.size
              have hbx := Bxo.made wo 40 (fwL r)
              have HWR := Go.Lib.hid (HWo.out.keep ya)
              go_upto_region 19 with (refine wpList_load_at rfl 40 _ rfl (ad.add (k * 5)) rfl (fwL r) _ HW.out Tryz.underlying40 rfl info_fw ?_)
              generalize wo.alloc (oFw r) = W9 at *
              generalize wo.heap.size = g9 at *
              have HB := Go.Lib.hid (show Bxo W9 g9 40 (fwL r) from hbx)
              clear hbx HW
              have tok3 : True := trivial
              go_wp2_with (first
                | (go_at_call 18; refine (cfwT15 r HRR.out (by have := HOK.out.proto; exact ⟨by omega, by omega⟩) (by have := HOK.out.port; exact ⟨by omega, by omega⟩) (by have := HOK.out.to; exact ⟨by omega, by omega⟩) _ (HC.out.tb.at x9)).mono ?_; rintro e we ⟨⟨s9, rfl, hs9, zs9⟩, ye⟩; have HWR := Go.Lib.hid (HWR.out.keep ye); dsimp only)
                | (go_at_call 12; refine (cwrite15 b (linesT (PQ ++ (fwds.take k).map forwardT)) s9 _ HWR.out (by have := HLM.out; omega) (Nat.le_trans hb9 ye.size)).mono ?_; rintro e wz2 ⟨rfl, hwz2, yz2, kz2⟩; have HWZ2 := Go.Lib.hid hwz2; clear hwz2; dsimp only)
                | (clear tok3; refine wpList_load_box rfl 40 _ rfl g9 rfl (fwL r) _ HB.out Tryz.underlying40 rfl info_fw ?_))
              have hwz : Wr b (linesT (PQ ++ (fwds.take (k + 1)).map forwardT)) wz2 := by
                have q := HWZ2.out
                rw [hs9] at q
                rw [HST.out]
                exact q
              go_round
              case rel => exact ⟨k + 1, by go_num, by omega, Go.Lib.hid hwz, z9.trans ((ye.mono hb9).trans yz2)⟩
              case measure => simp [intOf]; omega
            · obtain rfl : k = fwds.length := by omega
              have t3 : ¬ (fwds.length : Int) < (fwds.length : Int) := by omega
              obtain ⟨PF, hPF⟩ : ∃ PF, PQ ++ fwds.map forwardT = PF := ⟨_, rfl⟩
              have HPF := Go.Lib.hid hPF
              have hn5 : Wr b (linesT PF) wo := by have q := HWo.out; rw [List.take_length, hPF] at q; exact q
              have HG5 := Go.Lib.hid (HG4.out.keep yo4 hgb)
              have HSF : Hid (PF ++ [lifeT ⟨routes, rules, outside, pub, lo, hi, fwds, tcp, other, budget⟩, budgetT budget] = showLines ⟨routes, rules, outside, pub, lo, hi, fwds, tcp, other, budget⟩) := Go.Lib.hid (by rw [← hPF, List.append_assoc]; exact HSH.out)
              have HLF1 : Hid ((linesT PF).length ≤ 50000) := Go.Lib.hid (lines_pre HRC.out HRG.out HSF.out)
              have HLF2 : Hid ((linesT (PF ++ [lifeT ⟨routes, rules, outside, pub, lo, hi, fwds, tcp, other, budget⟩])).length ≤ 50000) := Go.Lib.hid (lines_pre HRC.out HRG.out (q := [budgetT budget]) (by rw [← HSF.out]; simp))
              go_upto_region 21 with fail
              have HWR : Hid (Wr b (linesT PF) wo.drew) := Go.Lib.hid (hn5.keep (below_drew (Below.refl _ _)))
              clear hn5 hPF HWo HN4 HG4
              rename World => W5
              try simp only [Act.put, List.setIfInBounds_toArray, List.set_cons_zero, List.set_cons_succ]
              refine wp_region_held_drew (S := fun Y => Below b W5 Y) (by kernel_rfl) ?_ (fun hHeld => ?_)
              · exact below_drew (Below.refl _ _)
              refine wpAnyH_take (i := 0) (oi := ⟨some 76, _, _, _, _, _⟩) (v := ?_) rfl (by kernel_rfl) (by kernel_rfl) (by kernel_rfl) (fun _ _ _ h => h) (Or.inl ⟨by rfl, ?_⟩) (by assumption) ?_
              rotate_left
              · intro w hSw; (try dsimp only at hSw); go_simp; (try with_reducible rfl)
              try simp only [Act.put, List.setIfInBounds_toArray, List.set_cons_zero, List.set_cons_succ]
              refine wpAnyH_take (i := 1) (oi := ⟨some 77, _, _, _, _, _⟩) (v := ?_) rfl (by kernel_rfl) (by kernel_rfl) (by kernel_rfl) (fun _ _ _ h => h) (Or.inl ⟨by rfl, ?_⟩) (by assumption) ?_
              rotate_left
              · intro w hSw; have c7 := (HG5.out.keep hSw hgb).cell 7 rfl; dsimp only at c7; (try dsimp only at hSw); go_simp; (try with_reducible rfl)
              try simp only [Act.put, List.setIfInBounds_toArray, List.set_cons_zero, List.set_cons_succ]
              refine wpAnyH_take (i := 3) (oi := ⟨some 79, _, _, _, _, _⟩) (v := ?_) rfl (by kernel_rfl) (by kernel_rfl) (by kernel_rfl) (fun _ _ _ h => h) (Or.inl ⟨by rfl, ?_⟩) (by assumption) ?_
              rotate_left
              · intro w hSw; (try dsimp only at hSw); go_simp; (try with_reducible rfl)
              try simp only [Act.put, List.setIfInBounds_toArray, List.set_cons_zero, List.set_cons_succ]
              refine wpAnyH_take (i := 4) (oi := ⟨some 80, _, _, _, _, _⟩) (v := ?_) rfl (by kernel_rfl) (by kernel_rfl) (by kernel_rfl) (fun _ _ _ h => h) (Or.inl ⟨by rfl, ?_⟩) (by assumption) ?_
              rotate_left
              · intro w hSw; have c8 := (HG5.out.keep hSw hgb).cell 8 rfl; dsimp only at c8; (try dsimp only at hSw); go_simp; (try with_reducible rfl)
              try simp only [Act.put, List.setIfInBounds_toArray, List.set_cons_zero, List.set_cons_succ]
              refine wpAnyH_ready (rs := [2]) (by kernel_rfl) (by simp) (AllReadyH.cons (o := ⟨some 78, _, _, _, _, _⟩) rfl (fun Kc hKc => ?_) AllReadyH.nil)
              go_simp
              go_at_call 15; refine (citoa15 tcp HTc.out _ (HC.out.tb.at (xo4.trans (hHeld.mono hwb)))).mono ?_; rintro e wc ⟨⟨n1, rfl, hn1⟩, ywc⟩; dsimp only; have HWR := Go.Lib.hid (HWR.out.keep ywc)
              refine hKc.out _ _ (hHeld.trans (ywc.mono (Nat.le_trans hbo4 hHeld.size))) (fun hHeld => ?_)
              clear hKc Kc
              try simp only [Act.put, List.setIfInBounds_toArray, List.set_cons_zero, List.set_cons_succ]
              refine wpAnyH_ready (rs := [5]) (by kernel_rfl) (by simp) (AllReadyH.cons (o := ⟨some 81, _, _, _, _, _⟩) rfl (fun Kc hKc => ?_) AllReadyH.nil)
              go_simp
              go_at_call 15; refine (citoa15 other HOt.out _ (HC.out.tb.at (xo4.trans (hHeld.mono hwb)))).mono ?_; rintro e wd ⟨⟨n2, rfl, hn2⟩, ywd⟩; dsimp only; have HWR := Go.Lib.hid (HWR.out.keep ywd)
              refine hKc.out _ _ (hHeld.trans (ywd.mono (Nat.le_trans hbo4 hHeld.size))) (fun hHeld => ?_)
              clear hKc Kc
              try simp only [Act.put, List.setIfInBounds_toArray, List.set_cons_zero, List.set_cons_succ]
              refine wpAnyH_ready (rs := [6]) (by kernel_rfl) (by simp) (AllReadyH.cons (o := ⟨some 82, _, _, _, _, _⟩) rfl (fun Kc hKc => ?_) AllReadyH.nil)
              go_simp
              have yB : Below wd.heap.size wd (wd.alloc (.cells #[.string { data := #[108, 105, 102, 101] }, .string n1, .string n2] 9)) := (Below.refl _ _).alloc (Nat.le_refl _) _; have HROW : Hid (∀ (j : Nat) x, ([{ data := #[108, 105, 102, 101] }, n1, n2] : List ByteArray)[j]? = some x → (wd.alloc (.cells #[.string { data := #[108, 105, 102, 101] }, .string n1, .string n2] 9)).cell? ⟨wd.heap.size, 0 + j, none⟩ = some (.string x)) := Go.Lib.hid (row_new wd [{ data := #[108, 105, 102, 101] }, n1, n2] 9); have HLT : Hid (wd.heap.size < (wd.alloc (.cells #[.string { data := #[108, 105, 102, 101] }, .string n1, .string n2] 9)).heap.size) := Go.Lib.hid (by simp); have HWR := Go.Lib.hid (HWR.out.keep yB); generalize wd.alloc (.cells #[.string { data := #[108, 105, 102, 101] }, .string n1, .string n2] 9) = wB at *
              refine hKc.out _ _ (hHeld.trans (yB.mono (Nat.le_trans hbo4 hHeld.size))) (fun hHeld => ?_)
              clear hKc Kc
              try simp only [Act.put, List.setIfInBounds_toArray, List.set_cons_zero, List.set_cons_succ]
              refine wpAnyH_ready (rs := [7]) (by kernel_rfl) (by simp) (AllReadyH.cons (o := ⟨some 83, _, _, _, _, _⟩) rfl (fun Kc hKc => ?_) AllReadyH.nil)
              go_simp
              go_at_call 13; refine (crowz15 wd.heap.size 3 3 [{ data := #[108, 105, 102, 101] }, n1, n2] rfl _ HROW.out HLT.out (by omega) (by omega) (lifeT ⟨routes, rules, outside, pub, lo, hi, fwds, tcp, other, budget⟩) (by show rowT [kLife, txB n1, txB n2] = _; rw [hn1, hn2]; exact row3 _ _ _) (by have := (show (lifeT ⟨routes, rules, outside, pub, lo, hi, fwds, tcp, other, budget⟩).length ≤ 100 from lifeT_len HTc.out HOt.out); omega)).mono ?_; rintro e we ⟨⟨s9, rfl, hs9, zs9⟩, ye⟩; dsimp only; have HWR := Go.Lib.hid (HWR.out.keep ye)
              refine hKc.out _ _ (hHeld.trans (ye.mono (Nat.le_trans hbo4 hHeld.size))) (fun hHeld => ?_)
              clear hKc Kc
              try simp only [Act.put, List.setIfInBounds_toArray, List.set_cons_zero, List.set_cons_succ]
              refine wpAnyH_ready (rs := [8]) (by kernel_rfl) (by simp) (AllReadyH.cons (o := ⟨some 84, _, _, _, _, _⟩) rfl (fun Kc hKc => ?_) AllReadyH.nil)
              go_simp
              go_at_call 12; refine (cwrite15 b (linesT PF) s9 _ HWR.out (by have := (show (lifeT ⟨routes, rules, outside, pub, lo, hi, fwds, tcp, other, budget⟩).length ≤ 100 from lifeT_len HTc.out HOt.out); have := HLF1.out; omega) (Nat.le_trans hbo4 hHeld.size)).mono ?_; rintro e wz ⟨rfl, hwz, yz, kz⟩; have HWZ := Go.Lib.hid hwz; clear hwz; dsimp only
              refine hKc.out _ _ (hHeld.trans yz) (fun hHeld => ?_)
              clear hKc Kc
              try simp only [Act.put, List.setIfInBounds_toArray, List.set_cons_zero, List.set_cons_succ]
              refine wpAnyH_done (by kernel_rfl) ?_ _
              have yq := hHeld
              clear hHeld
              obtain ⟨PG, hPG⟩ : ∃ PG, PF ++ [lifeT ⟨routes, rules, outside, pub, lo, hi, fwds, tcp, other, budget⟩] = PG := ⟨_, rfl⟩
              have hn6 : Wr b (linesT PG) wz := by
                have q := HWZ.out
                rw [hs9, ← lines_one, hPG] at q
                exact q
              have HPG := Go.Lib.hid hPG
              have HLG : Hid ((linesT PG).length ≤ 50000) := Go.Lib.hid (by rw [← hPG]; exact HLF2.out)
              have x6 := xo4.trans (yq.mono hwb)
              have hb6 : b ≤ wz.heap.size := Nat.le_trans hbo4 yq.size
              have HN6 := Go.Lib.hid hn6
              have HG6 := Go.Lib.hid (HG5.out.keep yq hgb)
              have f9 := HG6.out.cell 9 rfl
              dsimp only at f9
              clear hn6 hPG HWZ HWR hs9 zs9 HG5
              rename World => W6
              go_upto_region 23 with (first
                | (go_at_call 15; refine (citoa15 budget HBu.out _ (HC.out.tb.at x6)).mono ?_; rintro e we ⟨⟨n1, rfl, hn1⟩, ye⟩; have HWR := Go.Lib.hid (HN6.out.keep ye); dsimp only)
                | (go_at_call 13; refine (crowz15 we.heap.size 2 2 [{ data := #[98, 117, 100, 103, 101, 116] }, n1] rfl _ (row_new we [{ data := #[98, 117, 100, 103, 101, 116] }, n1] 9) (by simp) (by omega) (by omega) (budgetT budget) (by show rowT [kBudget, txB n1] = _; rw [hn1]; exact row2 _ _) (by have := numT_len HBu.out; show (kBudget ++ 32 :: numT budget).length ≤ _; simp only [List.length_append, List.length_cons, List.length_nil]; omega)).mono ?_; rintro e wf ⟨⟨s9, rfl, hs9, zs9⟩, yf⟩; have yB : Below we.heap.size we wf := ((Below.refl we.heap.size we).alloc (Nat.le_refl _) _).trans (yf.mono (by simp)); have HWR := Go.Lib.hid (HWR.out.keep yB); have zs : s9.size ≤ 100 := (by have := numT_len HBu.out; have q : (budgetT budget).length ≤ 40 := (by show (kBudget ++ 32 :: numT budget).length ≤ _; simp only [List.length_append, List.length_cons, List.length_nil]; omega); omega); dsimp only)
                | (go_at_call 12; refine (cwrite15 b (linesT PG) s9 _ HWR.out (by have := HLG.out; omega) (Nat.le_trans hb6 (Nat.le_trans ye.size yB.size))).mono ?_; rintro e wz ⟨rfl, hwz, yz, kz⟩; have HWZ := Go.Lib.hid hwz; have yw : Below b W6 wz := (ye.mono hb6).trans ((yB.mono (Nat.le_trans hb6 ye.size)).trans yz); clear hwz kz; dsimp only))
              have hn7 : Wr b (showP ⟨routes, rules, outside, pub, lo, hi, fwds, tcp, other, budget⟩) wz := by
                have q := HWZ.out
                rw [hs9, ← lines_one, ← HPG.out, List.append_assoc] at q
                unfold showP
                rw [← HSF.out]
                exact q
              have HN7 := Go.Lib.hid hn7
              clear hn7
              go_wp2_with (go_at_call 19; refine (cstr15 b _ _ HN7.out).mono ?_; rintro e wy ⟨⟨sf, rfl, hsf⟩, yy⟩; dsimp only)
              go_ret2
              exact ⟨⟨sf, 0, rfl, (fun _ => ⟨hsf, rfl⟩), (fun e => by rw [HQ.out] at e; cases e)⟩, (x6.trans (yw.mono hwb)).trans (yy.mono hwb)⟩
          
          
end Go.Proofs.YtoghcefamoefpaaGreatDoor
