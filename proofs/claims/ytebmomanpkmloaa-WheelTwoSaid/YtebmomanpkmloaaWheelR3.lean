/- Contracts of the document's own answers for package wheel: When, Drop, Set. -/
import Derived.Test.YtebmomanpkmloaaWheelR2
namespace Go.Proofs.Ytebmomanpkmloaa
open Go.ChangeShapes Go.WideShapes Go.ChangeAt Go.RowKit
set_option linter.unusedVariables false
set_option linter.unusedSimpArgs false

/-- a struct of two cells and a number, as two results. -/
theorem results_ct11 {P : Program} {fn : Func} {p u : Tmp} {t1 : TypeId} (h : fn.results = #[.cell p t1, .tmp u]) (tmps : Array Value) (w : World) (g1 : Nat) (c1 : List Value) (d1 : TypeDesc)
    (hp : tmps.getD p undef = .pointer (some ⟨g1, 0, none⟩)) (h1 : Bxo w g1 t1 c1)
    (u1 : P.underlying t1 = some d1) (r1 : (match d1 with | .struct _ | .array _ _ => true | _ => false) = true) (i1 : (P.info? t1).map (·.size) = some c1.length) :
    (results fn tmps).run P w = .ok (.tuple #[.agg c1.toArray, tmps.getD u undef]) w := by
  have hp' : tmps[p]?.getD undef = .pointer (some ⟨g1, 0, none⟩) := by simpa using hp
  have e1 := run_loadVar_row (P := P) w g1 t1 t1 c1.toArray (0, 0) d1 h1 u1 r1 (by simpa using i1)
  simp [results, h, hp', asAddr, e1]
def WhPost2 (w : World) (A0 : Option Addr) (q : Wh × Int) (e : Ending) (w' : World) : Prop := ∃ A c, e = .returned (.tuple #[whV q.1 A c, .int .i64 q.2]) ∧ AlAt w' q.1.list A c ∧ Below w.heap.size w w' ∧ (A = A0 ∨ ∀ ad, A = some ad → w.heap.size ≤ ad.block ∧ ad.block < w'.heap.size)
theorem findI_none {l : List Al} {n : Int} (h : findH l n = none) : findI l n = -1 := by unfold findI; rw [h]
theorem findI_some {l : List Al} {n : Int} {i : Nat} (h : findH l n = some i) : findI l n = (i : Int) := by unfold findI; rw [h]
set_option maxRecDepth 100000 in
set_option maxHeartbeats 4000000 in
theorem rwhen11 (x : Wh) (A : Option Addr) (c : Nat) (n : Int) (w : World) (h : AlAt w x.list A c) (q : Int × Bool) (hq : whenH x n = q) :
    Calls Try.prog 17 #[whV x A c, .int .i64 n] w fun e w' => e = .returned (.tuple #[.int .i64 q.1, .bool q.2]) ∧ Below w.heap.size w w' := by
  have y0 : Below w.heap.size w (w.alloc (oWh x A c)) := (Below.refl _ _).alloc (Nat.le_refl _) _
  have h1 := Bxo.made w 28 (whL x A c)
  have HC := Go.Lib.hid (h.at y0)
  have hlc := h.len
  unfold whenH at hq
  clear h
  go_enter Try.func17, Try.ntmps17
  go_upto_region 1 with fail
  generalize w.alloc (oWh x A c) = W at *
  have HB := Go.Lib.hid h1
  clear h1
  cases hf : findH x.list n
  · rw [hf] at hq
    dsimp only at hq
    subst hq
    have HF := Go.Lib.hid (findI_none hf)
    clear hf
    go_wp2_with (first
      | (refine wpList_load_box rfl 28 _ rfl w.heap.size rfl (whL x A c) _ HB.out Try.underlying28 rfl info_wh ?_)
      | (go_at_call 20; refine (rfind11 x A c n W HC.out (-1) HF.out).mono ?_; rintro e w1 ⟨rfl, y1⟩; have x1 := y0.trans (y1.mono y0.size); dsimp only))
    go_ret2
    exact ⟨rfl, x1⟩
  · rename_i i
    rw [hf] at hq
    dsimp only at hq
    obtain ⟨hi, _, _⟩ := find_some hf
    obtain ⟨a, ha⟩ : ∃ a, x.list[i] = a := ⟨_, rfl⟩
    rw [List.getD_eq_getElem?_getD, List.getElem?_eq_getElem hi, ha] at hq
    have hq' : (a.at_, true) = q := hq
    subst hq'
    have HF := Go.Lib.hid (findI_some hf)
    have i0 : ¬ (i : Int) < 0 := by omega
    have i1 : (0 : Int) ≤ (i : Int) := by omega
    have i2 : (i : Int) < (x.list.length : Int) := by omega
    obtain ⟨ad, rfl, hcell⟩ := HC.out.cell hi
    rw [ha] at hcell
    clear hf ha hq
    go_upto_region 4 with (first
      | (refine wpList_load_box rfl 28 _ rfl w.heap.size rfl (whL x (some ad) c) _ HB.out Try.underlying28 rfl info_wh ?_)
      | (go_at_call 20; refine (rfind11 x (some ad) c n W HC.out (i : Int) HF.out).mono ?_; rintro e w1 ⟨rfl, y1⟩; have x1 := y0.trans (y1.mono y0.size); have HB := Go.Lib.hid (HB.out.keep y1 HB.out.lt); have zn := at_off 1 (show w1.cell? (ad.add (i * 2 + 1)) = some (.int .i64 a.at_) by have q := hcell w1 y1 1 _ rfl; rw [add_add] at q; exact q) (by omega); dsimp only))
    have c0 := HB.out.cell 0 rfl
    go_wp2_with fail
    go_ret2
    exact ⟨rfl, x1⟩
set_option maxRecDepth 100000 in
set_option maxHeartbeats 4000000 in
theorem rdrop11 (x : Wh) (A : Option Addr) (c : Nat) (n : Int) (w : World) (h : AlAt w x.list A c) (hbig : x.list.length ≤ 65536) (q : Wh × Int) (hq : dropH x n = q) :
    Calls Try.prog 11 #[whV x A c, .int .i64 n] w (WhPost2 w A q) := by
  have y0 : Below w.heap.size w ((w.alloc (oWh x A c)).alloc (oWh wh0 none 0)) := below_alloc (below_alloc (Below.refl _ _) (Nat.le_refl _) _) (by simp) _
  have h1 := (Bxo.made w 28 (whL x A c)).alloc (oWh wh0 none 0)
  have h2 : Bxo ((w.alloc (oWh x A c)).alloc (oWh wh0 none 0)) (w.heap.size + 1) 28 (whL wh0 none 0) := by
    have := Bxo.made (w.alloc (oWh x A c)) 28 (whL wh0 none 0)
    simpa using this
  have HC := Go.Lib.hid (h.at y0)
  unfold dropH at hq
  have HA := Go.Lib.hid h
  clear h
  go_enter Try.func11, Try.ntmps11
  go_upto_region 1 with fail
  generalize ((w.alloc (oWh x A c)).alloc (oWh wh0 none 0)) = W at *
  have HB := Go.Lib.hid h1
  have HZ := Go.Lib.hid h2
  clear h1 h2
  cases hf : findH x.list n
  · rw [hf] at hq
    dsimp only at hq
    subst hq
    have HF := Go.Lib.hid (findI_none hf)
    clear hf
    go_wp2_with (first
      | (refine wpList_load_box rfl 28 _ rfl w.heap.size rfl (whL x A c) _ HB.out Try.underlying28 rfl info_wh ?_)
      | (go_at_call 20; refine (rfind11 x A c n W HC.out (-1) HF.out).mono ?_; rintro e w1 ⟨rfl, y1⟩; have x1 := y0.trans (y1.mono y0.size); have HB := Go.Lib.hid (HB.out.keep y1 HB.out.lt); have HZ := Go.Lib.hid (HZ.out.keep y1 HZ.out.lt); dsimp only)
      | (refine wpList_store_any rfl 28 _ _ rfl (w.heap.size + 1) 0 28 _ (whL x A c) _ rfl rfl rfl HZ.out info_wh (by show 0 + 2 ≤ 2; omega) (by simp [Value.oneCell']) ?_; intro wF hbF hoF; have HBF := Go.Lib.hid hbF; clear hbF))
    have xF := x1.trans (hoF.below (show w.heap.size ≤ w.heap.size + 1 by omega))
    exact bodyPost_ret (v := .tuple #[.agg (whL x A c).toArray, .int .i64 9]) (results_ct11 (p := 4) (u := 5) rfl _ _ (w.heap.size + 1) _ _ rfl HBF.out Try.underlying28 rfl info_wh) rfl ⟨A, c, rfl, HA.out.at xF, xF, .inl rfl⟩
  · rename_i i
    rw [hf] at hq
    dsimp only at hq
    obtain ⟨hi, _, _⟩ := find_some hf
    subst hq
    have HF := Go.Lib.hid (findI_some hf)
    have i0 : ¬ (i : Int) < 0 := by omega
    clear hf
    go_wp2_with (first
      | (refine wpList_load_box rfl 28 _ rfl w.heap.size rfl (whL x A c) _ HB.out Try.underlying28 rfl info_wh ?_)
      | (go_at_call 20; refine (rfind11 x A c n W HC.out (i : Int) HF.out).mono ?_; rintro e w1 ⟨rfl, y1⟩; have x1 := y0.trans (y1.mono y0.size); have HB := Go.Lib.hid (HB.out.keep y1 HB.out.lt); have HZ := Go.Lib.hid (HZ.out.keep y1 HZ.out.lt); have HC := Go.Lib.hid (HC.out.at y1); dsimp only)
      | (go_at_call 21; refine (rwithout11 x A c i w1 HC.out hi hbig).mono ?_; rintro e w2 ⟨A2, c2, rfl, ha2, y2, hfr⟩; have HFR := Go.Lib.hid hfr; have hz1 := HZ.out.lt; clear hfr; have x2 := x1.trans (y2.mono x1.size); have HZ := Go.Lib.hid (HZ.out.keep y2 HZ.out.lt); have HA2 := Go.Lib.hid ha2; have hz2 := HZ.out.lt; clear ha2; dsimp only)
      | (refine wpList_store_any rfl 28 _ _ rfl (w.heap.size + 1) 0 28 _ (whL ⟨x.list.take i ++ x.list.drop (i + 1), x.now⟩ A2 c2) _ rfl rfl rfl HZ.out info_wh (by show 0 + 2 ≤ 2; omega) (by simp [Value.oneCell']) ?_; intro wF hbF hoF; have HBF := Go.Lib.hid hbF; clear hbF))
    have xF := x2.trans (hoF.below (show w.heap.size ≤ w.heap.size + 1 by omega))
    have HN : Hid (∀ ad, A2 = some ad → ad.block ≠ w.heap.size + 1) := Go.Lib.hid (fun ad e => by have := HFR.out ad e; omega)
    exact bodyPost_ret (v := .tuple #[.agg (whL ⟨x.list.take i ++ x.list.drop (i + 1), x.now⟩ A2 c2).toArray, .int .i64 0]) (results_ct11 (p := 4) (u := 5) rfl _ _ (w.heap.size + 1) _ _ rfl HBF.out Try.underlying28 rfl info_wh) rfl ⟨A2, c2, rfl, HA2.out.keepR (fun ad e => hoF.block _ (HN.out ad e)), xF, .inr (fun ad e => ⟨Nat.le_trans x1.size (HFR.out ad e).1, by have h1 := (HFR.out ad e).2; have h2 := hoF.size; omega⟩)⟩
end Go.Proofs.Ytebmomanpkmloaa
