/- Lemmas, several texts in one. -/
import Derived.Test.YtofpalmghdapkaaQ14
import Derived.Test.YtofpalmghdapkaaQ05
/- The document's own answers for package flows: Add. -/
namespace Go.Proofs.Ytofpalmghdapkaa
open Go.ChangeShapes Go.WideShapes Go.ChangeAt Go.RowKit
set_option linter.unusedVariables false
set_option linter.unusedSimpArgs false

/-- a store and two numbers are answered. -/
def SdP4 (w : World) (A0 B0 : Option Addr) (q : Sr × Int × Int) (e : Ending) (w' : World) : Prop := ∃ A c B d, e = .returned (.tuple #[sdV q.1 A c B d, .int .i64 q.2.1, .int .i64 q.2.2]) ∧ SdNew w w' A0 B0 q.1 A c B d
def addTail (x : Sr) (f : Fl) : Sr × Int × Int := match freeF x.slots with
  | none => (x, 0, 8)
  | some i => (⟨x.slots.set i (some f), x.now⟩, (i : Nat), 0)
theorem tail_some {x : Sr} {f : Fl} {k : Nat} (h : freeF x.slots = some k) : addTail x f = ((⟨x.slots.set k (some f), x.now⟩ : Sr), ((k : Nat) : Int), (0 : Int)) := by unfold addTail; rw [h]
theorem tail_none {x : Sr} {f : Fl} (h : freeF x.slots = none) : addTail x f = (x, 0, 8) := by unfold addTail; rw [h]
theorem add_ok {x : Sr} {f : Fl} (hm : mayF f = true) (hn : ¬ f.until_ ≤ x.now) : addS x f = if (findF x.slots f.there).isSome || (findF x.slots f.back).isSome then (x, 0, 10) else addTail x f := by unfold addS addTail; rw [hm, if_neg (by simp), if_neg hn]; rfl
theorem findS_ok (s : Sr) (t : Tp) : (findS s t).2.2 = (findF s.slots t).isSome := by
  unfold findS
  cases findF s.slots t <;> rfl
set_option maxRecDepth 100000 in
set_option maxHeartbeats 16000000 in
theorem radd12 (x : Sr) (A : Option Addr) (c : Nat) (B : Option Addr) (d : Nat) (f : Fl) (w : World) (h : SdAt w x A c B d) (hx : x.slots.length ≤ 256) (q : Sr × Int × Int) (hq : addS x f = q) :
    Calls Try.prog 17 #[sdV x A c B d, flV f] w (SdP4 w A B q) := by
  have y0 : Below w.heap.size w (((w.alloc (oSd x A c B d)).alloc (oFl f)).alloc (oSd sr0 none 0 none 0)) := below_alloc (below_alloc (below_alloc (Below.refl _ _) (Nat.le_refl _) _) (by simp) _) (by simp; omega) _
  have h1 := ((Bxo.made w 31 (sdL x A c B d)).alloc (oFl f)).alloc (oSd sr0 none 0 none 0)
  have h2 : Bxo (((w.alloc (oSd x A c B d)).alloc (oFl f)).alloc (oSd sr0 none 0 none 0)) (w.heap.size + 1) 40 (flL f) := by
    have := (Bxo.made (w.alloc (oSd x A c B d)) 40 (flL f)).alloc (oSd sr0 none 0 none 0)
    simpa using this
  have h3 : Bxo (((w.alloc (oSd x A c B d)).alloc (oFl f)).alloc (oSd sr0 none 0 none 0)) (w.heap.size + 1 + 1) 31 (sdL sr0 none 0 none 0) := by
    have := Bxo.made ((w.alloc (oSd x A c B d)).alloc (oFl f)) 31 (sdL sr0 none 0 none 0)
    simpa using this
  have HC0 := Go.Lib.hid h
  have hud := h.ulen
  clear h
  obtain ⟨a1, ha1⟩ : ∃ a, rightT f.there = a := ⟨_, rfl⟩
  obtain ⟨a2, ha2⟩ : ∃ a, rightT f.back = a := ⟨_, rfl⟩
  obtain ⟨a3, ha3⟩ : ∃ a, sameTp f.there f.back = a := ⟨_, rfl⟩
  have R1 := Go.Lib.hid ha1
  have R2 := Go.Lib.hid ha2
  have HM : Hid (mayF f = (a1 && (a2 && (!a3 && decide (f.until_ ≤ 1099511627776))))) := Go.Lib.hid (by unfold mayF; rw [ha1, ha2, ha3])
  have tq : ∀ W, (binOp .eql 38 (tpV f.there) (tpV f.back)).run Try.prog W = .ok (.bool a3) W := fun W => by rw [eqTp, ha3]
  clear ha1 ha2 ha3
  go_enter Try.func17, Try.ntmps17
  go_upto_region 1 with fail
  generalize (((w.alloc (oSd x A c B d)).alloc (oFl f)).alloc (oSd sr0 none 0 none 0)) = W at *
  have HX := Go.Lib.hid h1
  have HF := Go.Lib.hid h2
  have HZ := Go.Lib.hid h3
  have x1 := y0
  have f10 := HF.out.cell 10 rfl
  clear h1 h2 h3 y0
  cases a1
  · have HQ : Hid (q = (x, 0, 1)) := Go.Lib.hid (by rw [← hq]; unfold addS; rw [HM.out]; rfl)
    clear hq
    go_wp2_with (first
      | (go_at_call_of 41 (Value.agg (tpL f.there).toArray); refine (rright9 f.there _ false R1.out).mono ?_; rintro e W1 ⟨rfl, y1⟩; have x1 := x1.trans (y1.mono x1.size); have HX := Go.Lib.hid (HX.out.keep y1 HX.out.lt); have HF := Go.Lib.hid (HF.out.keep y1 HF.out.lt); have HZ := Go.Lib.hid (HZ.out.keep y1 HZ.out.lt); dsimp only)
      | (refine wpList_load_at rfl 38 _ rfl ⟨w.heap.size + 1, 0, none⟩ rfl (tpL f.there) _ HF.out.there Try.underlying38 rfl info_tp ?_)
      | (refine wpList_load_at rfl 38 _ rfl ⟨w.heap.size + 1, 5, none⟩ rfl (tpL f.back) _ HF.out.back Try.underlying38 rfl info_tp ?_)
      | (refine wpList_load_box rfl 31 _ rfl w.heap.size rfl (sdL x A c B d) _ HX.out Try.underlying31 rfl info_sd ?_)
      | (refine wpList_store_any rfl 31 _ _ rfl (w.heap.size + 1 + 1) 0 31 _ (sdL x A c B d) _ rfl rfl rfl HZ.out info_sd (by show 0 + 3 ≤ 3; omega) (by simp [Value.oneCell']) ?_; intro wF hbF hoF; have HBF := Go.Lib.hid hbF; clear hbF))
    have xF := x1.trans (hoF.below (show w.heap.size ≤ w.heap.size + 1 + 1 by omega))
    exact bodyPost_ret (v := .tuple #[.agg (sdL x A c B d).toArray, .int .i64 0, .int .i64 1]) (results_ctt (p := 4) (u := 5) (v := 6) rfl _ _ (w.heap.size + 1 + 1) _ _ rfl HBF.out Try.underlying31 rfl info_sd) rfl ⟨A, c, B, d, by rw [HQ.out], by rw [HQ.out]; exact SdNew.stay HC0.out xF⟩
  cases a2
  · have HQ : Hid (q = (x, 0, 1)) := Go.Lib.hid (by rw [← hq]; unfold addS; rw [HM.out]; rfl)
    clear hq
    go_wp2_with (first
      | (go_at_call_of 41 (Value.agg (tpL f.there).toArray); refine (rright9 f.there _ true R1.out).mono ?_; rintro e W1 ⟨rfl, y1⟩; have x1 := x1.trans (y1.mono x1.size); have HX := Go.Lib.hid (HX.out.keep y1 HX.out.lt); have HF := Go.Lib.hid (HF.out.keep y1 HF.out.lt); have HZ := Go.Lib.hid (HZ.out.keep y1 HZ.out.lt); dsimp only)
      | (go_at_call_of 41 (Value.agg (tpL f.back).toArray); refine (rright9 f.back _ false R2.out).mono ?_; rintro e W2 ⟨rfl, y2⟩; have x1 := x1.trans (y2.mono x1.size); have HX := Go.Lib.hid (HX.out.keep y2 HX.out.lt); have HF := Go.Lib.hid (HF.out.keep y2 HF.out.lt); have HZ := Go.Lib.hid (HZ.out.keep y2 HZ.out.lt); dsimp only)
      | (refine wpList_load_at rfl 38 _ rfl ⟨w.heap.size + 1, 0, none⟩ rfl (tpL f.there) _ HF.out.there Try.underlying38 rfl info_tp ?_)
      | (refine wpList_load_at rfl 38 _ rfl ⟨w.heap.size + 1, 5, none⟩ rfl (tpL f.back) _ HF.out.back Try.underlying38 rfl info_tp ?_)
      | (refine wpList_load_box rfl 31 _ rfl w.heap.size rfl (sdL x A c B d) _ HX.out Try.underlying31 rfl info_sd ?_)
      | (refine wpList_store_any rfl 31 _ _ rfl (w.heap.size + 1 + 1) 0 31 _ (sdL x A c B d) _ rfl rfl rfl HZ.out info_sd (by show 0 + 3 ≤ 3; omega) (by simp [Value.oneCell']) ?_; intro wF hbF hoF; have HBF := Go.Lib.hid hbF; clear hbF))
    have xF := x1.trans (hoF.below (show w.heap.size ≤ w.heap.size + 1 + 1 by omega))
    exact bodyPost_ret (v := .tuple #[.agg (sdL x A c B d).toArray, .int .i64 0, .int .i64 1]) (results_ctt (p := 4) (u := 5) (v := 6) rfl _ _ (w.heap.size + 1 + 1) _ _ rfl HBF.out Try.underlying31 rfl info_sd) rfl ⟨A, c, B, d, by rw [HQ.out], by rw [HQ.out]; exact SdNew.stay HC0.out xF⟩
  cases a3
  rotate_left
  · have HQ : Hid (q = (x, 0, 1)) := Go.Lib.hid (by rw [← hq]; unfold addS; rw [HM.out]; rfl)
    clear hq
    go_wp2_with (first
      | (go_at_call_of 41 (Value.agg (tpL f.there).toArray); refine (rright9 f.there _ true R1.out).mono ?_; rintro e W1 ⟨rfl, y1⟩; have x1 := x1.trans (y1.mono x1.size); have HX := Go.Lib.hid (HX.out.keep y1 HX.out.lt); have HF := Go.Lib.hid (HF.out.keep y1 HF.out.lt); have HZ := Go.Lib.hid (HZ.out.keep y1 HZ.out.lt); dsimp only)
      | (go_at_call_of 41 (Value.agg (tpL f.back).toArray); refine (rright9 f.back _ true R2.out).mono ?_; rintro e W2 ⟨rfl, y2⟩; have x1 := x1.trans (y2.mono x1.size); have HX := Go.Lib.hid (HX.out.keep y2 HX.out.lt); have HF := Go.Lib.hid (HF.out.keep y2 HF.out.lt); have HZ := Go.Lib.hid (HZ.out.keep y2 HZ.out.lt); dsimp only)
      | (refine wpList_load_at rfl 38 _ rfl ⟨w.heap.size + 1, 0, none⟩ rfl (tpL f.there) _ HF.out.there Try.underlying38 rfl info_tp ?_)
      | (refine wpList_load_at rfl 38 _ rfl ⟨w.heap.size + 1, 5, none⟩ rfl (tpL f.back) _ HF.out.back Try.underlying38 rfl info_tp ?_)
      | (refine wpList_load_box rfl 31 _ rfl w.heap.size rfl (sdL x A c B d) _ HX.out Try.underlying31 rfl info_sd ?_)
      | (refine wpList_store_any rfl 31 _ _ rfl (w.heap.size + 1 + 1) 0 31 _ (sdL x A c B d) _ rfl rfl rfl HZ.out info_sd (by show 0 + 3 ≤ 3; omega) (by simp [Value.oneCell']) ?_; intro wF hbF hoF; have HBF := Go.Lib.hid hbF; clear hbF))
    have xF := x1.trans (hoF.below (show w.heap.size ≤ w.heap.size + 1 + 1 by omega))
    exact bodyPost_ret (v := .tuple #[.agg (sdL x A c B d).toArray, .int .i64 0, .int .i64 1]) (results_ctt (p := 4) (u := 5) (v := 6) rfl _ _ (w.heap.size + 1 + 1) _ _ rfl HBF.out Try.underlying31 rfl info_sd) rfl ⟨A, c, B, d, by rw [HQ.out], by rw [HQ.out]; exact SdNew.stay HC0.out xF⟩
  by_cases h40 : f.until_ ≤ 1099511627776
  rotate_left
  · have HQ : Hid (q = (x, 0, 1)) := Go.Lib.hid (by rw [← hq]; unfold addS; rw [HM.out, decide_eq_false h40]; rfl)
    have h40' : 1099511627776 < f.until_ := by omega
    clear hq
    go_wp2_with (first
      | (go_at_call_of 41 (Value.agg (tpL f.there).toArray); refine (rright9 f.there _ true R1.out).mono ?_; rintro e W1 ⟨rfl, y1⟩; have x1 := x1.trans (y1.mono x1.size); have HX := Go.Lib.hid (HX.out.keep y1 HX.out.lt); have HF := Go.Lib.hid (HF.out.keep y1 HF.out.lt); have HZ := Go.Lib.hid (HZ.out.keep y1 HZ.out.lt); have f10 := HF.out.cell 10 rfl; have c2 := HX.out.cell 2 rfl; dsimp only)
      | (go_at_call_of 41 (Value.agg (tpL f.back).toArray); refine (rright9 f.back _ true R2.out).mono ?_; rintro e W2 ⟨rfl, y2⟩; have x1 := x1.trans (y2.mono x1.size); have HX := Go.Lib.hid (HX.out.keep y2 HX.out.lt); have HF := Go.Lib.hid (HF.out.keep y2 HF.out.lt); have HZ := Go.Lib.hid (HZ.out.keep y2 HZ.out.lt); have f10 := HF.out.cell 10 rfl; have c2 := HX.out.cell 2 rfl; dsimp only)
      | (refine wpList_load_at rfl 38 _ rfl ⟨w.heap.size + 1, 0, none⟩ rfl (tpL f.there) _ HF.out.there Try.underlying38 rfl info_tp ?_)
      | (refine wpList_load_at rfl 38 _ rfl ⟨w.heap.size + 1, 5, none⟩ rfl (tpL f.back) _ HF.out.back Try.underlying38 rfl info_tp ?_)
      | (refine wpList_load_box rfl 31 _ rfl w.heap.size rfl (sdL x A c B d) _ HX.out Try.underlying31 rfl info_sd ?_)
      | (refine wpList_store_any rfl 31 _ _ rfl (w.heap.size + 1 + 1) 0 31 _ (sdL x A c B d) _ rfl rfl rfl HZ.out info_sd (by show 0 + 3 ≤ 3; omega) (by simp [Value.oneCell']) ?_; intro wF hbF hoF; have HBF := Go.Lib.hid hbF; clear hbF))
    have xF := x1.trans (hoF.below (show w.heap.size ≤ w.heap.size + 1 + 1 by omega))
    exact bodyPost_ret (v := .tuple #[.agg (sdL x A c B d).toArray, .int .i64 0, .int .i64 1]) (results_ctt (p := 4) (u := 5) (v := 6) rfl _ _ (w.heap.size + 1 + 1) _ _ rfl HBF.out Try.underlying31 rfl info_sd) rfl ⟨A, c, B, d, by rw [HQ.out], by rw [HQ.out]; exact SdNew.stay HC0.out xF⟩
  have HM' : Hid (mayF f = true) := Go.Lib.hid (by rw [HM.out, decide_eq_true h40]; rfl)
  have h40' : ¬ 1099511627776 < f.until_ := by omega
  by_cases hn : f.until_ ≤ x.now
  · have HQ : Hid (q = (x, 0, 14)) := Go.Lib.hid (by rw [← hq]; unfold addS; rw [HM'.out, if_neg (by simp), if_pos hn])
    clear hq
    go_wp2_with (first
      | (go_at_call_of 41 (Value.agg (tpL f.there).toArray); refine (rright9 f.there _ true R1.out).mono ?_; rintro e W1 ⟨rfl, y1⟩; have x1 := x1.trans (y1.mono x1.size); have HX := Go.Lib.hid (HX.out.keep y1 HX.out.lt); have HF := Go.Lib.hid (HF.out.keep y1 HF.out.lt); have HZ := Go.Lib.hid (HZ.out.keep y1 HZ.out.lt); have f10 := HF.out.cell 10 rfl; have c2 := HX.out.cell 2 rfl; dsimp only)
      | (go_at_call_of 41 (Value.agg (tpL f.back).toArray); refine (rright9 f.back _ true R2.out).mono ?_; rintro e W2 ⟨rfl, y2⟩; have x1 := x1.trans (y2.mono x1.size); have HX := Go.Lib.hid (HX.out.keep y2 HX.out.lt); have HF := Go.Lib.hid (HF.out.keep y2 HF.out.lt); have HZ := Go.Lib.hid (HZ.out.keep y2 HZ.out.lt); have f10 := HF.out.cell 10 rfl; have c2 := HX.out.cell 2 rfl; dsimp only)
      | (refine wpList_load_at rfl 38 _ rfl ⟨w.heap.size + 1, 0, none⟩ rfl (tpL f.there) _ HF.out.there Try.underlying38 rfl info_tp ?_)
      | (refine wpList_load_at rfl 38 _ rfl ⟨w.heap.size + 1, 5, none⟩ rfl (tpL f.back) _ HF.out.back Try.underlying38 rfl info_tp ?_)
      | (refine wpList_load_box rfl 31 _ rfl w.heap.size rfl (sdL x A c B d) _ HX.out Try.underlying31 rfl info_sd ?_)
      | (refine wpList_store_any rfl 31 _ _ rfl (w.heap.size + 1 + 1) 0 31 _ (sdL x A c B d) _ rfl rfl rfl HZ.out info_sd (by show 0 + 3 ≤ 3; omega) (by simp [Value.oneCell']) ?_; intro wF hbF hoF; have HBF := Go.Lib.hid hbF; clear hbF))
    have xF := x1.trans (hoF.below (show w.heap.size ≤ w.heap.size + 1 + 1 by omega))
    exact bodyPost_ret (v := .tuple #[.agg (sdL x A c B d).toArray, .int .i64 0, .int .i64 14]) (results_ctt (p := 4) (u := 5) (v := 6) rfl _ _ (w.heap.size + 1 + 1) _ _ rfl HBF.out Try.underlying31 rfl info_sd) rfl ⟨A, c, B, d, by rw [HQ.out], by rw [HQ.out]; exact SdNew.stay HC0.out xF⟩
  have HQ0 : Hid (q = if (findF x.slots f.there).isSome || (findF x.slots f.back).isSome then (x, 0, 10) else addTail x f) := Go.Lib.hid (by rw [← hq]; exact add_ok HM'.out hn)
  obtain ⟨⟨n1, b1, o1⟩, hf1⟩ : ∃ q, findS x f.there = q := ⟨_, rfl⟩
  obtain ⟨⟨n2, b2, o2⟩, hf2⟩ : ∃ q, findS x f.back = q := ⟨_, rfl⟩
  have e1 := findS_ok x f.there
  have e2 := findS_ok x f.back
  rw [hf1] at e1
  rw [hf2] at e2
  dsimp only at e1 e2
  have E1 := Go.Lib.hid e1
  have E2 := Go.Lib.hid e2
  have HF1 := Go.Lib.hid hf1
  have HF2 := Go.Lib.hid hf2
  clear hq hf1 hf2 e1 e2
  by_cases ho : (o1 || o2) = true
  · have HQ : Hid (q = (x, 0, 10)) := Go.Lib.hid (by rw [HQ0.out, ← E1.out, ← E2.out, if_pos ho])
    clear HQ0
    cases o1
    · obtain rfl : o2 = true := by simpa using ho
      clear ho
      go_wp2_with (first
        | (go_at_call_of 41 (Value.agg (tpL f.there).toArray); refine (rright9 f.there _ true R1.out).mono ?_; rintro e W1 ⟨rfl, y1⟩; have x1 := x1.trans (y1.mono x1.size); have HX := Go.Lib.hid (HX.out.keep y1 HX.out.lt); have HF := Go.Lib.hid (HF.out.keep y1 HF.out.lt); have HZ := Go.Lib.hid (HZ.out.keep y1 HZ.out.lt); have f10 := HF.out.cell 10 rfl; have c2 := HX.out.cell 2 rfl; dsimp only)
        | (go_at_call_of 41 (Value.agg (tpL f.back).toArray); refine (rright9 f.back _ true R2.out).mono ?_; rintro e W2 ⟨rfl, y2⟩; have x1 := x1.trans (y2.mono x1.size); have HX := Go.Lib.hid (HX.out.keep y2 HX.out.lt); have HF := Go.Lib.hid (HF.out.keep y2 HF.out.lt); have HZ := Go.Lib.hid (HZ.out.keep y2 HZ.out.lt); have f10 := HF.out.cell 10 rfl; have c2 := HX.out.cell 2 rfl; dsimp only)
        | (go_at_call_of 22 (Value.agg (tpL f.there).toArray); refine (rfind12 x A c B d f.there _ (HC0.out.at x1) _ HF1.out).mono ?_; rintro e W3 ⟨rfl, y3⟩; have x1 := x1.trans (y3.mono x1.size); have HX := Go.Lib.hid (HX.out.keep y3 HX.out.lt); have HF := Go.Lib.hid (HF.out.keep y3 HF.out.lt); have HZ := Go.Lib.hid (HZ.out.keep y3 HZ.out.lt); dsimp only)
        | (go_at_call_of 22 (Value.agg (tpL f.back).toArray); refine (rfind12 x A c B d f.back _ (HC0.out.at x1) _ HF2.out).mono ?_; rintro e W4 ⟨rfl, y4⟩; have x1 := x1.trans (y4.mono x1.size); have HX := Go.Lib.hid (HX.out.keep y4 HX.out.lt); have HF := Go.Lib.hid (HF.out.keep y4 HF.out.lt); have HZ := Go.Lib.hid (HZ.out.keep y4 HZ.out.lt); dsimp only)
        | (refine wpList_load_at rfl 38 _ rfl ⟨w.heap.size + 1, 0, none⟩ rfl (tpL f.there) _ HF.out.there Try.underlying38 rfl info_tp ?_)
        | (refine wpList_load_at rfl 38 _ rfl ⟨w.heap.size + 1, 5, none⟩ rfl (tpL f.back) _ HF.out.back Try.underlying38 rfl info_tp ?_)
        | (refine wpList_load_box rfl 31 _ rfl w.heap.size rfl (sdL x A c B d) _ HX.out Try.underlying31 rfl info_sd ?_)
        | (refine wpList_store_any rfl 31 _ _ rfl (w.heap.size + 1 + 1) 0 31 _ (sdL x A c B d) _ rfl rfl rfl HZ.out info_sd (by show 0 + 3 ≤ 3; omega) (by simp [Value.oneCell']) ?_; intro wF hbF hoF; have HBF := Go.Lib.hid hbF; clear hbF))
      have xF := x1.trans (hoF.below (show w.heap.size ≤ w.heap.size + 1 + 1 by omega))
      exact bodyPost_ret (v := .tuple #[.agg (sdL x A c B d).toArray, .int .i64 0, .int .i64 10]) (results_ctt (p := 4) (u := 5) (v := 6) rfl _ _ (w.heap.size + 1 + 1) _ _ rfl HBF.out Try.underlying31 rfl info_sd) rfl ⟨A, c, B, d, by rw [HQ.out], by rw [HQ.out]; exact SdNew.stay HC0.out xF⟩
    · clear ho
      go_wp2_with (first
        | (go_at_call_of 41 (Value.agg (tpL f.there).toArray); refine (rright9 f.there _ true R1.out).mono ?_; rintro e W1 ⟨rfl, y1⟩; have x1 := x1.trans (y1.mono x1.size); have HX := Go.Lib.hid (HX.out.keep y1 HX.out.lt); have HF := Go.Lib.hid (HF.out.keep y1 HF.out.lt); have HZ := Go.Lib.hid (HZ.out.keep y1 HZ.out.lt); have f10 := HF.out.cell 10 rfl; have c2 := HX.out.cell 2 rfl; dsimp only)
        | (go_at_call_of 41 (Value.agg (tpL f.back).toArray); refine (rright9 f.back _ true R2.out).mono ?_; rintro e W2 ⟨rfl, y2⟩; have x1 := x1.trans (y2.mono x1.size); have HX := Go.Lib.hid (HX.out.keep y2 HX.out.lt); have HF := Go.Lib.hid (HF.out.keep y2 HF.out.lt); have HZ := Go.Lib.hid (HZ.out.keep y2 HZ.out.lt); have f10 := HF.out.cell 10 rfl; have c2 := HX.out.cell 2 rfl; dsimp only)
        | (go_at_call_of 22 (Value.agg (tpL f.there).toArray); refine (rfind12 x A c B d f.there _ (HC0.out.at x1) _ HF1.out).mono ?_; rintro e W3 ⟨rfl, y3⟩; have x1 := x1.trans (y3.mono x1.size); have HX := Go.Lib.hid (HX.out.keep y3 HX.out.lt); have HF := Go.Lib.hid (HF.out.keep y3 HF.out.lt); have HZ := Go.Lib.hid (HZ.out.keep y3 HZ.out.lt); dsimp only)
        | (go_at_call_of 22 (Value.agg (tpL f.back).toArray); refine (rfind12 x A c B d f.back _ (HC0.out.at x1) _ HF2.out).mono ?_; rintro e W4 ⟨rfl, y4⟩; have x1 := x1.trans (y4.mono x1.size); have HX := Go.Lib.hid (HX.out.keep y4 HX.out.lt); have HF := Go.Lib.hid (HF.out.keep y4 HF.out.lt); have HZ := Go.Lib.hid (HZ.out.keep y4 HZ.out.lt); dsimp only)
        | (refine wpList_load_at rfl 38 _ rfl ⟨w.heap.size + 1, 0, none⟩ rfl (tpL f.there) _ HF.out.there Try.underlying38 rfl info_tp ?_)
        | (refine wpList_load_at rfl 38 _ rfl ⟨w.heap.size + 1, 5, none⟩ rfl (tpL f.back) _ HF.out.back Try.underlying38 rfl info_tp ?_)
        | (refine wpList_load_box rfl 31 _ rfl w.heap.size rfl (sdL x A c B d) _ HX.out Try.underlying31 rfl info_sd ?_)
        | (refine wpList_store_any rfl 31 _ _ rfl (w.heap.size + 1 + 1) 0 31 _ (sdL x A c B d) _ rfl rfl rfl HZ.out info_sd (by show 0 + 3 ≤ 3; omega) (by simp [Value.oneCell']) ?_; intro wF hbF hoF; have HBF := Go.Lib.hid hbF; clear hbF))
      have xF := x1.trans (hoF.below (show w.heap.size ≤ w.heap.size + 1 + 1 by omega))
      exact bodyPost_ret (v := .tuple #[.agg (sdL x A c B d).toArray, .int .i64 0, .int .i64 10]) (results_ctt (p := 4) (u := 5) (v := 6) rfl _ _ (w.heap.size + 1 + 1) _ _ rfl HBF.out Try.underlying31 rfl info_sd) rfl ⟨A, c, B, d, by rw [HQ.out], by rw [HQ.out]; exact SdNew.stay HC0.out xF⟩
  obtain ⟨rfl, rfl⟩ : o1 = false ∧ o2 = false := by cases o1 <;> cases o2 <;> simp at ho ⊢
  have HQ1 : Hid (q = addTail x f) := Go.Lib.hid (by rw [HQ0.out, ← E1.out, ← E2.out]; rfl)
  clear ho HQ0
  go_upto_region 9 with (first
    | (go_at_call_of 41 (Value.agg (tpL f.there).toArray); refine (rright9 f.there _ true R1.out).mono ?_; rintro e W1 ⟨rfl, y1⟩; have x1 := x1.trans (y1.mono x1.size); have HX := Go.Lib.hid (HX.out.keep y1 HX.out.lt); have HF := Go.Lib.hid (HF.out.keep y1 HF.out.lt); have HZ := Go.Lib.hid (HZ.out.keep y1 HZ.out.lt); have f10 := HF.out.cell 10 rfl; have c2 := HX.out.cell 2 rfl; dsimp only)
    | (go_at_call_of 41 (Value.agg (tpL f.back).toArray); refine (rright9 f.back _ true R2.out).mono ?_; rintro e W2 ⟨rfl, y2⟩; have x1 := x1.trans (y2.mono x1.size); have HX := Go.Lib.hid (HX.out.keep y2 HX.out.lt); have HF := Go.Lib.hid (HF.out.keep y2 HF.out.lt); have HZ := Go.Lib.hid (HZ.out.keep y2 HZ.out.lt); have f10 := HF.out.cell 10 rfl; have c2 := HX.out.cell 2 rfl; dsimp only)
    | (go_at_call_of 22 (Value.agg (tpL f.there).toArray); refine (rfind12 x A c B d f.there _ (HC0.out.at x1) _ HF1.out).mono ?_; rintro e W3 ⟨rfl, y3⟩; have x1 := x1.trans (y3.mono x1.size); have HX := Go.Lib.hid (HX.out.keep y3 HX.out.lt); have HF := Go.Lib.hid (HF.out.keep y3 HF.out.lt); have HZ := Go.Lib.hid (HZ.out.keep y3 HZ.out.lt); dsimp only)
    | (go_at_call_of 22 (Value.agg (tpL f.back).toArray); refine (rfind12 x A c B d f.back _ (HC0.out.at x1) _ HF2.out).mono ?_; rintro e W4 ⟨rfl, y4⟩; have x1 := x1.trans (y4.mono x1.size); have HX := Go.Lib.hid (HX.out.keep y4 HX.out.lt); have HF := Go.Lib.hid (HF.out.keep y4 HF.out.lt); have HZ := Go.Lib.hid (HZ.out.keep y4 HZ.out.lt); dsimp only)
    | (refine wpList_load_at rfl 38 _ rfl ⟨w.heap.size + 1, 0, none⟩ rfl (tpL f.there) _ HF.out.there Try.underlying38 rfl info_tp ?_)
    | (refine wpList_load_at rfl 38 _ rfl ⟨w.heap.size + 1, 5, none⟩ rfl (tpL f.back) _ HF.out.back Try.underlying38 rfl info_tp ?_)
    | (refine wpList_load_box rfl 31 _ rfl w.heap.size rfl (sdL x A c B d) _ HX.out Try.underlying31 rfl info_sd ?_))
  clear f10 c2
  go_wp2_with fail
  have hXl := HX.out.lt
  go_loop [13] (fun iv => ∃ k : Nat, k ≤ x.slots.length ∧ iv = .int .i64 k ∧ Hid (∀ j, j < k → slotF x.slots j ≠ none)) (fun iv => x.slots.length - (intOf iv).toNat)
  case atStart => exact ⟨0, by omega, rfl, Go.Lib.hid (fun j hj => by omega)⟩
  case round =>
    obtain ⟨k, hk, rfl, HN⟩ := hrel
    have k0 : (0 : Int) ≤ (k : Int) := by omega
    have c0 := HX.out.cell 0 rfl
    by_cases hkl : k < x.slots.length
    · have t1 : (k : Int) < (x.slots.length : Int) := by omega
      obtain ⟨ad, rfl, hu⟩ := HC0.out.ucell hkl
      have d0 := hu W4 x1
      clear hu
      cases hs : slotF x.slots k with
      | some g =>
        rw [hs] at d0
        have HS := Go.Lib.hid hs
        dsimp only [Option.isSome] at d0
        clear hs
        go_wp2_with fail
        go_round
        case rel => exact ⟨k + 1, by omega, by go_num, Go.Lib.hid (fun j hj => by
          by_cases e : j = k
          · rw [e, HS.out]; simp
          · exact HN.out j (by omega))⟩
        case measure => simp [intOf]; omega
      | none =>
        rw [hs] at d0
        have HFR : Hid (freeF x.slots = some k) := Go.Lib.hid (by
          refine List.findIdx?_eq_some_iff_getElem.2 ⟨hkl, by rw [← slot_get hkl, hs]; rfl, fun j hj => ?_⟩
          have := HN.out j hj
          rw [slot_get (by omega)] at this
          cases hjj : x.slots[j] with
          | none => exact absurd hjj this
          | some _ => simp [hjj])
        have HQ : Hid (q = ((⟨x.slots.set k (some f), x.now⟩ : Sr), ((k : Nat) : Int), (0 : Int))) := Go.Lib.hid (by rw [HQ1.out, tail_some HFR.out])
        dsimp only [Option.isSome] at d0
        clear hs
        go_wp2_with (first
          | (refine wpList_load_box rfl 31 _ rfl w.heap.size rfl (sdL x (some ad) c B d) _ HX.out Try.underlying31 rfl info_sd ?_)
          | (refine wpList_load_box rfl 40 _ rfl (w.heap.size + 1) rfl (flL f) _ HF.out Try.underlying40 rfl info_fl ?_)
          | (go_at_call 42; refine (rwith12 x (some ad) c B d k (some f) W4 (HC0.out.at x1) hkl hx true rfl f rfl).mono ?_; rintro e W5 ⟨A5, c5, B5, d5, rfl, hn5⟩; have HN5 := Go.Lib.hid hn5; have HZ5 := Go.Lib.hid (HZ.out.keep hn5.below HZ.out.lt); have hz4 := HZ.out.lt; clear hn5; dsimp only)
          | (refine wpList_store_any rfl 31 _ _ rfl (w.heap.size + 1 + 1) 0 31 _ (sdL ⟨x.slots.set k (some f), x.now⟩ A5 c5 B5 d5) _ rfl rfl rfl HZ5.out info_sd (by show 0 + 3 ≤ 3; omega) (by simp [Value.oneCell']) ?_; intro wF hbF hoF; have HBF := Go.Lib.hid hbF; clear hbF))
        have xF := (x1.trans (HN5.out.below.mono x1.size)).trans (hoF.below (show w.heap.size ≤ w.heap.size + 1 + 1 by omega))
        exact bodyPost_ret (v := .tuple #[.agg (sdL ⟨x.slots.set k (some f), x.now⟩ A5 c5 B5 d5).toArray, .int .i64 (k : Int), .int .i64 0]) (results_ctt (p := 4) (u := 5) (v := 6) rfl _ _ (w.heap.size + 1 + 1) _ _ rfl HBF.out Try.underlying31 rfl info_sd) rfl ⟨A5, c5, B5, d5, by rw [HQ.out], by rw [HQ.out]; exact HN5.out.wide x1 xF (fun j h1 h2 => hoF.block j (by omega)) (Nat.le_of_eq hoF.size.symm)⟩
    · obtain rfl : k = x.slots.length := by omega
      have t1 : ¬ (x.slots.length : Int) < (x.slots.length : Int) := by omega
      have HFR : Hid (freeF x.slots = none) := Go.Lib.hid (by
        refine List.findIdx?_eq_none_iff.2 fun o ho => ?_
        obtain ⟨j, hj, rfl⟩ := List.getElem_of_mem ho
        have := HN.out j hj
        rw [slot_get hj] at this
        cases hjj : x.slots[j] with
        | none => exact absurd hjj this
        | some _ => rfl)
      have HQ : Hid (q = (x, 0, 8)) := Go.Lib.hid (by rw [HQ1.out, tail_none HFR.out])
      go_wp2_with (first
        | (refine wpList_load_box rfl 31 _ rfl w.heap.size rfl (sdL x A c B d) _ HX.out Try.underlying31 rfl info_sd ?_)
        | (refine wpList_store_any rfl 31 _ _ rfl (w.heap.size + 1 + 1) 0 31 _ (sdL x A c B d) _ rfl rfl rfl HZ.out info_sd (by show 0 + 3 ≤ 3; omega) (by simp [Value.oneCell']) ?_; intro wF hbF hoF; have HBF := Go.Lib.hid hbF; clear hbF))
      have xF := x1.trans (hoF.below (show w.heap.size ≤ w.heap.size + 1 + 1 by omega))
      exact bodyPost_ret (v := .tuple #[.agg (sdL x A c B d).toArray, .int .i64 0, .int .i64 8]) (results_ctt (p := 4) (u := 5) (v := 6) rfl _ _ (w.heap.size + 1 + 1) _ _ rfl HBF.out Try.underlying31 rfl info_sd) rfl ⟨A, c, B, d, by rw [HQ.out], by rw [HQ.out]; exact SdNew.stay HC0.out xF⟩
end Go.Proofs.Ytofpalmghdapkaa
