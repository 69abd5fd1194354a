/- Lemmas, several texts in one. -/
import Derived.Test.YtofpalmghdapkaaQ04
import Derived.Test.YtofpalmghdapkaaQ13
import Derived.Test.YtofpalmghdapkaaQ03
import Derived.Deep.RegionHeld3
/- The document's own answers for package flows: Set, Drop. -/
namespace Go.Proofs.Ytofpalmghdapkaa
open Go.ChangeShapes Go.WideShapes Go.ChangeAt Go.RowKit
set_option linter.unusedVariables false
set_option linter.unusedSimpArgs false

theorem info_i12 : (Try.prog.info? 3).map (·.size) = some 1 := by kernel_rfl
theorem results_cct {P : Program} {fn : Func} {p q u : Tmp} {t1 t2 : TypeId} (h : fn.results = #[.cell p t1, .cell q t2, .tmp u]) (tmps : Array Value) (w : World) (g1 g2 : Nat) (c1 c2 : List Value) (d1 d2 : TypeDesc)
    (hp : tmps.getD p undef = .pointer (some ⟨g1, 0, none⟩)) (hq : tmps.getD q undef = .pointer (some ⟨g2, 0, none⟩)) (h1 : Bxo w g1 t1 c1) (h2 : Bxo w g2 t2 c2)
    (u1 : P.underlying t1 = some d1) (r1 : (match d1 with | .struct _ | .array _ _ => true | _ => false) = true) (i1 : (P.info? t1).map (·.size) = some c1.length)
    (u2 : P.underlying t2 = some d2) (r2 : (match d2 with | .struct _ | .array _ _ => true | _ => false) = true) (i2 : (P.info? t2).map (·.size) = some c2.length) :
    (results fn tmps).run P w = .ok (.tuple #[.agg c1.toArray, .agg c2.toArray, tmps.getD u undef]) w := by
  have hp' : tmps[p]?.getD undef = .pointer (some ⟨g1, 0, none⟩) := by simpa using hp
  have hq' : tmps[q]?.getD undef = .pointer (some ⟨g2, 0, none⟩) := by simpa using hq
  have e1 := run_loadVar_row (P := P) w g1 t1 t1 c1.toArray (0, 0) d1 h1 u1 r1 (by simpa using i1)
  have e2 := run_loadVar_row (P := P) w g2 t2 t2 c2.toArray (0, 0) d2 h2 u2 r2 (by simpa using i2)
  simp [results, h, hp', hq', asAddr, e1, e2]
/-- a store and a number are answered. -/
def SdP2 (w : World) (A0 B0 : Option Addr) (q : Sr × Int) (e : Ending) (w' : World) : Prop := ∃ A c B d, e = .returned (.tuple #[sdV q.1 A c B d, .int .i64 q.2]) ∧ SdNew w w' A0 B0 q.1 A c B d
theorem SdNew.stay {w w' : World} {x : Sr} {A B : Option Addr} {c d : Nat} (h : SdAt w x A c B d) (y : Below w.heap.size w w') : SdNew w w' A B x A c B d := ⟨h.at y, y, .inl ⟨rfl, rfl⟩⟩
set_option maxRecDepth 100000 in
set_option maxHeartbeats 8000000 in
theorem rset12 (x : Sr) (A : Option Addr) (c : Nat) (B : Option Addr) (d : Nat) (num u no : Int) (w : World) (h : SdAt w x A c B d) (hx : x.slots.length ≤ 256) (q : Sr × Int) (hq : setF11 x num u no = q) :
    Calls Try.prog 18 #[sdV x A c B d, .int .i64 num, .int .i64 u, .int .i64 no] w (SdP2 w A B q) := by
  have y0 : Below w.heap.size w ((w.alloc (oSd x A c B d)).alloc (oSd sr0 none 0 none 0)) := below_alloc (below_alloc (Below.refl _ _) (Nat.le_refl _) _) (by simp) _
  have h1 := (Bxo.made w 31 (sdL x A c B d)).alloc (oSd sr0 none 0 none 0)
  have h2 : Bxo ((w.alloc (oSd x A c B d)).alloc (oSd sr0 none 0 none 0)) (w.heap.size + 1) 31 (sdL sr0 none 0 none 0) := by
    have := Bxo.made (w.alloc (oSd x A c B d)) 31 (sdL sr0 none 0 none 0)
    simpa using this
  have HC := Go.Lib.hid (h.at y0)
  have HC0 := Go.Lib.hid h
  obtain ⟨o, ho⟩ : ∃ o, thereF x num = o := ⟨_, rfl⟩
  have HT : Hid ((thereF x num).isSome = o.isSome) := Go.Lib.hid (by rw [ho])
  have hfd := h.flen
  clear h
  go_enter Try.func18, Try.ntmps18
  go_upto_region 1 with fail
  generalize ((w.alloc (oSd x A c B d)).alloc (oSd sr0 none 0 none 0)) = W at *
  have HX := Go.Lib.hid h1
  have HZ := Go.Lib.hid h2
  clear h1 h2
  cases o with
  | none =>
    have HQ : Hid (q = (x, 9)) := Go.Lib.hid (by rw [← hq]; unfold setF11; rw [ho])
    clear hq ho
    go_wp2_with (first
      | (refine wpList_load_box rfl 31 _ rfl w.heap.size rfl (sdL x A c B d) _ HX.out Try.underlying31 rfl info_sd ?_)
      | (go_at_call 23; refine (rthere12 x A c B d num W HC.out false HT.out).mono ?_; rintro e w1 ⟨rfl, y1⟩; have x1 := y0.trans (y1.mono y0.size); have HX := Go.Lib.hid (HX.out.keep y1 HX.out.lt); have HZ := Go.Lib.hid (HZ.out.keep y1 HZ.out.lt); dsimp only)
      | (refine wpList_store_any rfl 31 _ _ rfl (w.heap.size + 1) 0 31 _ (sdL x A c B d) _ rfl rfl rfl HZ.out info_sd (by show 0 + 3 ≤ 3; omega) (by simp [Value.oneCell']) ?_; intro wF hbF hoF; have HBF := Go.Lib.hid hbF; clear hbF))
    have xF := x1.trans (hoF.below (show w.heap.size ≤ w.heap.size + 1 by omega))
    exact bodyPost_ret (v := .tuple #[.agg (sdL x A c B d).toArray, .int .i64 9]) (results_ct12 (p := 8) (u := 9) rfl _ _ (w.heap.size + 1) _ _ rfl HBF.out Try.underlying31 rfl info_sd) rfl ⟨A, c, B, d, by rw [HQ.out], by rw [HQ.out]; exact SdNew.stay HC0.out xF⟩
  | some f =>
    by_cases hu : u > 1099511627776
    · have HQ : Hid (q = (x, 1)) := Go.Lib.hid (by rw [← hq]; unfold setF11; rw [ho]; dsimp only; rw [if_pos hu])
      clear hq ho
      go_wp2_with (first
        | (refine wpList_load_box rfl 31 _ rfl w.heap.size rfl (sdL x A c B d) _ HX.out Try.underlying31 rfl info_sd ?_)
        | (go_at_call 23; refine (rthere12 x A c B d num W HC.out true HT.out).mono ?_; rintro e w1 ⟨rfl, y1⟩; have x1 := y0.trans (y1.mono y0.size); have HX := Go.Lib.hid (HX.out.keep y1 HX.out.lt); have HZ := Go.Lib.hid (HZ.out.keep y1 HZ.out.lt); dsimp only)
        | (refine wpList_store_any rfl 31 _ _ rfl (w.heap.size + 1) 0 31 _ (sdL x A c B d) _ rfl rfl rfl HZ.out info_sd (by show 0 + 3 ≤ 3; omega) (by simp [Value.oneCell']) ?_; intro wF hbF hoF; have HBF := Go.Lib.hid hbF; clear hbF))
      have xF := x1.trans (hoF.below (show w.heap.size ≤ w.heap.size + 1 by omega))
      exact bodyPost_ret (v := .tuple #[.agg (sdL x A c B d).toArray, .int .i64 1]) (results_ct12 (p := 8) (u := 9) rfl _ _ (w.heap.size + 1) _ _ rfl HBF.out Try.underlying31 rfl info_sd) rfl ⟨A, c, B, d, by rw [HQ.out], by rw [HQ.out]; exact SdNew.stay HC0.out xF⟩
    · have hu' : ¬ 1099511627776 < u := hu
      by_cases hv : u ≤ x.now
      · have HQ : Hid (q = (x, 14)) := Go.Lib.hid (by rw [← hq]; unfold setF11; rw [ho]; dsimp only; rw [if_neg hu, if_pos hv])
        clear hq ho
        go_upto_region 5 with (first
          | (refine wpList_load_box rfl 31 _ rfl w.heap.size rfl (sdL x A c B d) _ HX.out Try.underlying31 rfl info_sd ?_)
          | (go_at_call 23; refine (rthere12 x A c B d num W HC.out true HT.out).mono ?_; rintro e w1 ⟨rfl, y1⟩; have x1 := y0.trans (y1.mono y0.size); have HX := Go.Lib.hid (HX.out.keep y1 HX.out.lt); have HZ := Go.Lib.hid (HZ.out.keep y1 HZ.out.lt); dsimp only))
        have c2 := HX.out.cell 2 rfl
        go_wp2_with (first
          | (refine wpList_load_box rfl 31 _ rfl w.heap.size rfl (sdL x A c B d) _ HX.out Try.underlying31 rfl info_sd ?_)
          | (refine wpList_store_any rfl 31 _ _ rfl (w.heap.size + 1) 0 31 _ (sdL x A c B d) _ rfl rfl rfl HZ.out info_sd (by show 0 + 3 ≤ 3; omega) (by simp [Value.oneCell']) ?_; intro wF hbF hoF; have HBF := Go.Lib.hid hbF; clear hbF))
        have xF := x1.trans (hoF.below (show w.heap.size ≤ w.heap.size + 1 by omega))
        exact bodyPost_ret (v := .tuple #[.agg (sdL x A c B d).toArray, .int .i64 14]) (results_ct12 (p := 8) (u := 9) rfl _ _ (w.heap.size + 1) _ _ rfl HBF.out Try.underlying31 rfl info_sd) rfl ⟨A, c, B, d, by rw [HQ.out], by rw [HQ.out]; exact SdNew.stay HC0.out xF⟩
      · obtain ⟨i, rfl, hs⟩ := there_iff ho
        have hi := slot_lt hs
        have HQ : Hid (q = (⟨x.slots.set i (some ⟨f.there, f.back, u, no⟩), x.now⟩, 0)) := Go.Lib.hid (by rw [← hq]; unfold setF11; rw [ho]; dsimp only; rw [if_neg hu, if_neg hv]; rfl)
        obtain ⟨ad, rfl, hf⟩ := HC0.out.fcell hi
        rw [hs] at hf
        dsimp only [Option.getD] at hf
        have HF := Go.Lib.hid hf
        have i1 : (0 : Int) ≤ (i : Int) := by omega
        have i2 : (i : Int) < (x.slots.length : Int) := by omega
        clear hq ho hs hf
        go_upto_region 5 with (first
          | (refine wpList_load_box rfl 31 _ rfl w.heap.size rfl (sdL x A c (some ad) d) _ HX.out Try.underlying31 rfl info_sd ?_)
          | (go_at_call 23; refine (rthere12 x A c (some ad) d (i : Int) W HC.out true HT.out).mono ?_; rintro e w1 ⟨rfl, y1⟩; have x1 := y0.trans (y1.mono y0.size); have HX := Go.Lib.hid (HX.out.keep y1 HX.out.lt); have HZ := Go.Lib.hid (HZ.out.keep y1 HZ.out.lt); have HC := Go.Lib.hid (HC.out.at y1); have hs1 := y1.size; dsimp only))
        have c2 := HX.out.cell 2 rfl
        have c1 := HX.out.cell 1 rfl
        have HG := Go.Lib.hid (HF.out w1 x1)
        go_upto_region 8 with (refine wpList_load_at rfl 40 _ rfl (ad.add (i * 12)) rfl (flL f) _ HG.out Try.underlying40 rfl info_fl ?_)
        have yA : Below w1.heap.size w1 (w1.alloc (oFl f)) := (Below.refl _ _).alloc (Nat.le_refl _) _
        have hbA := Bxo.made w1 40 (flL f)
        have HXA := Go.Lib.hid (HX.out.keep yA HX.out.lt)
        have HZA := Go.Lib.hid (HZ.out.keep yA HZ.out.lt)
        have HCA := Go.Lib.hid (HC.out.at yA)
        have hzl := HZ.out.lt
        clear c1 c2
        generalize w1.alloc (oFl f) = w2 at *
        generalize hgA : w1.heap.size = gA at *
        have HBA := Go.Lib.hid (show Bxo w2 gA 40 [.int .i64 f.there.proto, .int .u32 f.there.src, .int .i64 f.there.sport, .int .u32 f.there.dst, .int .i64 f.there.dport, .int .i64 f.back.proto, .int .u32 f.back.src, .int .i64 f.back.sport, .int .u32 f.back.dst, .int .i64 f.back.dport, .int .i64 f.until_, .int .i64 f.note] from hbA)
        clear hbA
        go_upto_region 9 with (first
          | (refine wpList_store_any rfl 3 _ _ rfl gA 10 40 _ [.int .i64 u] _ rfl rfl rfl HBA.out info_i12 (by show 10 + 1 ≤ 12; omega) (by simp [Value.oneCell']) ?_; intro w3 hb3 ho3; have HB3 : Hid (Bxo w3 gA 40 [.int .i64 f.there.proto, .int .u32 f.there.src, .int .i64 f.there.sport, .int .u32 f.there.dst, .int .i64 f.there.dport, .int .i64 f.back.proto, .int .u32 f.back.src, .int .i64 f.back.sport, .int .u32 f.back.dst, .int .i64 f.back.dport, .int .i64 u, .int .i64 f.note]) := Go.Lib.hid hb3; have HO3 := Go.Lib.hid ho3; clear hb3 ho3)
          | (refine wpList_store_any rfl 3 _ _ rfl gA 11 40 _ [.int .i64 no] _ rfl rfl rfl HB3.out info_i12 (by show 11 + 1 ≤ 12; omega) (by simp [Value.oneCell']) ?_; intro w4 hb4 ho4; have HB4 : Hid (Bxo w4 gA 40 (flL ⟨f.there, f.back, u, no⟩)) := Go.Lib.hid hb4; have HO4 := Go.Lib.hid (HO3.out.trans ho4); clear hb4 ho4))
        have hzA : gA ≠ w.heap.size ∧ gA ≠ w.heap.size + 1 ∧ w.heap.size ≤ gA := by omega
        have HX4 := Go.Lib.hid (HXA.out.only HO4.out (Ne.symm hzA.1))
        have HZ4 := Go.Lib.hid (HZA.out.only HO4.out (Ne.symm hzA.2.1))
        have y4 : Below w.heap.size w w4 := (x1.trans (yA.mono (by omega))).trans (HO4.out.below hzA.2.2)
        have HC4 := Go.Lib.hid (HC0.out.at y4)
        clear hgA
        go_wp2_with (first
          | (refine wpList_load_box rfl 31 _ rfl w.heap.size rfl (sdL x A c (some ad) d) _ HX4.out Try.underlying31 rfl info_sd ?_)
          | (refine wpList_load_box rfl 40 _ rfl gA rfl (flL ⟨f.there, f.back, u, no⟩) _ HB4.out Try.underlying40 rfl info_fl ?_)
          | (go_at_call 42; refine (rwith12 x A c (some ad) d i (some ⟨f.there, f.back, u, no⟩) w4 HC4.out hi hx true rfl ⟨f.there, f.back, u, no⟩ rfl).mono ?_; rintro e w5 ⟨A5, c5, B5, d5, rfl, hn5⟩; have HN5 := Go.Lib.hid hn5; have HZ5 := Go.Lib.hid (HZ4.out.keep hn5.below HZ4.out.lt); have hz4 := HZ4.out.lt; clear hn5; dsimp only)
          | (refine wpList_store_any rfl 31 _ _ rfl (w.heap.size + 1) 0 31 _ (sdL ⟨x.slots.set i (some ⟨f.there, f.back, u, no⟩), x.now⟩ A5 c5 B5 d5) _ rfl rfl rfl HZ5.out info_sd (by show 0 + 3 ≤ 3; omega) (by simp [Value.oneCell']) ?_; intro wF hbF hoF; have HBF := Go.Lib.hid hbF; clear hbF))
        have xF := (y4.trans (HN5.out.below.mono y4.size)).trans (hoF.below (show w.heap.size ≤ w.heap.size + 1 by omega))
        exact bodyPost_ret (v := .tuple #[.agg (sdL ⟨x.slots.set i (some ⟨f.there, f.back, u, no⟩), x.now⟩ A5 c5 B5 d5).toArray, .int .i64 0]) (results_ct12 (p := 8) (u := 9) rfl _ _ (w.heap.size + 1) _ _ rfl HBF.out Try.underlying31 rfl info_sd) rfl ⟨A5, c5, B5, d5, by rw [HQ.out], by rw [HQ.out]; exact HN5.out.wide y4 xF (fun k h1 h2 => hoF.block k (by omega)) (Nat.le_of_eq hoF.size.symm)⟩
/-- but two blocks, of all that were there nothing has turned. -/
structure Dx (g : Nat) (W Y : World) : Prop where
  os : Y.os = W.os
  tape : Y.tape = W.tape
  output : Y.output = W.output
  size : W.heap.size ≤ Y.heap.size
  block : ∀ k, k < W.heap.size → ¬ (k = g + 1 ∨ k = g + 1 + 1) → Y.heap[k]? = W.heap[k]?
theorem Dx.trans {g : Nat} {W Y Z : World} (h : Dx g W Y) (k : Dx g Y Z) : Dx g W Z := ⟨k.os.trans h.os, k.tape.trans h.tape, k.output.trans h.output, Nat.le_trans h.size k.size, fun i hi hn => (k.block i (Nat.lt_of_lt_of_le hi h.size) hn).trans (h.block i hi hn)⟩
theorem dx_below {g : Nat} {W Y : World} (h : Below W.heap.size W Y) : Dx g W Y := ⟨h.os, h.tape, h.output, h.size, fun k hk _ => h.block k hk⟩
theorem dx_only {g k : Nat} {W Y : World} (h : Only k W Y) (hk : k = g + 1 ∨ k = g + 1 + 1) : Dx g W Y := ⟨h.os, h.tape, h.output, Nat.le_of_eq h.size.symm, fun i hi hn => h.block i (fun e => hn (e ▸ hk))⟩
theorem Dx.low {w W Y : World} (h : Dx w.heap.size W Y) (y : Below w.heap.size w W) : Below w.heap.size w Y :=
  ⟨h.os.trans y.os, h.tape.trans y.tape, h.output.trans y.output, Nat.le_trans y.size h.size, fun k hk => (h.block k (Nat.lt_of_lt_of_le hk y.size) (by omega)).trans (y.block k hk)⟩
/-- a store, a flow and a number are answered. -/
def SdP3 (w : World) (A0 B0 : Option Addr) (q : Sr × Fl × Int) (e : Ending) (w' : World) : Prop := ∃ A c B d, e = .returned (.tuple #[sdV q.1 A c B d, flV q.2.1, .int .i64 q.2.2]) ∧ SdNew w w' A0 B0 q.1 A c B d
set_option maxRecDepth 100000 in
set_option maxHeartbeats 8000000 in
theorem rdrop12 (x : Sr) (A : Option Addr) (c : Nat) (B : Option Addr) (d : Nat) (num : Int) (w : World) (h : SdAt w x A c B d) (hx : x.slots.length ≤ 256) (q : Sr × Fl × Int) (hq : dropF x num = q) :
    Calls Try.prog 19 #[sdV x A c B d, .int .i64 num] w (SdP3 w A B q) := by
  have y0 : Below w.heap.size w (((w.alloc (oSd x A c B d)).alloc (oSd sr0 none 0 none 0)).alloc (oFl fl0)) := below_alloc (below_alloc (below_alloc (Below.refl _ _) (Nat.le_refl _) _) (by simp) _) (by simp; omega) _
  have h1 := ((Bxo.made w 31 (sdL x A c B d)).alloc (oSd sr0 none 0 none 0)).alloc (oFl fl0)
  have h2 : Bxo (((w.alloc (oSd x A c B d)).alloc (oSd sr0 none 0 none 0)).alloc (oFl fl0)) (w.heap.size + 1) 31 (sdL sr0 none 0 none 0) := by
    have := (Bxo.made (w.alloc (oSd x A c B d)) 31 (sdL sr0 none 0 none 0)).alloc (oFl fl0)
    simpa using this
  have h3 : Bxo (((w.alloc (oSd x A c B d)).alloc (oSd sr0 none 0 none 0)).alloc (oFl fl0)) (w.heap.size + 1 + 1) 40 (flL fl0) := by
    have := Bxo.made ((w.alloc (oSd x A c B d)).alloc (oSd sr0 none 0 none 0)) 40 (flL fl0)
    simpa using this
  have HC := Go.Lib.hid (h.at y0)
  have HC0 := Go.Lib.hid h
  obtain ⟨o, ho⟩ : ∃ o, thereF x num = o := ⟨_, rfl⟩
  have HT : Hid ((thereF x num).isSome = o.isSome) := Go.Lib.hid (by rw [ho])
  have hfd := h.flen
  clear h
  go_enter Try.func19, Try.ntmps19
  go_upto_region 1 with fail
  generalize (((w.alloc (oSd x A c B d)).alloc (oSd sr0 none 0 none 0)).alloc (oFl fl0)) = W at *
  have HX := Go.Lib.hid h1
  have HZ := Go.Lib.hid h2
  have HY := Go.Lib.hid h3
  have hxl := HX.out.lt
  have hyl := HY.out.lt
  clear h1 h2 h3
  cases o with
  | none =>
    have HQ : Hid (q = (x, fl0, 9)) := Go.Lib.hid (by rw [← hq]; unfold dropF; rw [ho])
    clear hq ho
    go_wp2_with (first
      | (refine wpList_load_box rfl 31 _ rfl w.heap.size rfl (sdL x A c B d) _ HX.out Try.underlying31 rfl info_sd ?_)
      | (go_at_call 23; refine (rthere12 x A c B d num W HC.out false HT.out).mono ?_; rintro e w1 ⟨rfl, y1⟩; have x1 := y0.trans (y1.mono y0.size); have HX := Go.Lib.hid (HX.out.keep y1 HX.out.lt); have HZ := Go.Lib.hid (HZ.out.keep y1 HZ.out.lt); have HY := Go.Lib.hid (HY.out.keep y1 HY.out.lt); dsimp only)
      | (refine wpList_store_any rfl 31 _ _ rfl (w.heap.size + 1) 0 31 _ (sdL x A c B d) _ rfl rfl rfl HZ.out info_sd (by show 0 + 3 ≤ 3; omega) (by simp [Value.oneCell']) ?_; intro wF hbF hoF; have HBF := Go.Lib.hid hbF; have HYF := Go.Lib.hid (HY.out.only hoF (by omega)); clear hbF)
      | (refine wpList_store_any rfl 40 _ _ rfl (w.heap.size + 1 + 1) 0 40 _ (flL fl0) _ rfl rfl rfl HYF.out info_fl (by show 0 + 12 ≤ 12; omega) (by simp [Value.oneCell']) ?_; intro wG hbG hoG; have HBG := Go.Lib.hid hbG; have HBF := Go.Lib.hid (HBF.out.only hoG (by omega)); clear hbG))
    have xF := (x1.trans (hoF.below (show w.heap.size ≤ w.heap.size + 1 by omega))).trans (hoG.below (show w.heap.size ≤ w.heap.size + 1 + 1 by omega))
    exact bodyPost_ret (v := .tuple #[.agg (sdL x A c B d).toArray, .agg (flL fl0).toArray, .int .i64 9]) (results_cct (p := 4) (q := 5) (u := 6) rfl _ _ (w.heap.size + 1) (w.heap.size + 1 + 1) _ _ _ _ rfl rfl HBF.out HBG.out Try.underlying31 rfl info_sd Try.underlying40 rfl info_fl) rfl ⟨A, c, B, d, by rw [HQ.out], by rw [HQ.out]; exact SdNew.stay HC0.out xF⟩
  | some f =>
    obtain ⟨i, rfl, hs⟩ := there_iff ho
    have hi := slot_lt hs
    have HQ : Hid (q = (⟨x.slots.set i none, x.now⟩, f, 0)) := Go.Lib.hid (by rw [← hq]; unfold dropF; rw [ho]; rfl)
    obtain ⟨ad, rfl, hf⟩ := HC0.out.fcell hi
    rw [hs] at hf
    dsimp only [Option.getD] at hf
    have HFC := Go.Lib.hid hf
    have i1 : (0 : Int) ≤ (i : Int) := by omega
    have i2 : (i : Int) < (x.slots.length : Int) := by omega
    clear hq ho hs hf
    go_upto_region 3 with (first
      | (refine wpList_load_box rfl 31 _ rfl w.heap.size rfl (sdL x A c (some ad) d) _ HX.out Try.underlying31 rfl info_sd ?_)
      | (go_at_call 23; refine (rthere12 x A c (some ad) d (i : Int) W HC.out true HT.out).mono ?_; rintro e W2 ⟨rfl, y1'⟩; have y1 := y0.trans (y1'.mono y0.size); have HX := Go.Lib.hid (HX.out.keep y1' HX.out.lt); have HZ := Go.Lib.hid (HZ.out.keep y1' HZ.out.lt); have HY := Go.Lib.hid (HY.out.keep y1' HY.out.lt); have HC := Go.Lib.hid (HC.out.at y1'); have hsW := y1'.size; clear y1'; dsimp only))
    clear hxl hyl hsW
    have hxl := HX.out.lt
    have hyl := HY.out.lt
    have hdr : W2.drew.heap.size = W2.heap.size := rfl
    have HX := Go.Lib.hid HX.out.drew
    have HZ := Go.Lib.hid HZ.out.drew
    have HY := Go.Lib.hid HY.out.drew
    try simp only [Act.put, List.setIfInBounds_toArray, List.set_cons_zero, List.set_cons_succ]
    refine wp_region_held_drew (S := fun Y => Dx w.heap.size W2 Y) (by kernel_rfl) ?_ (fun hHeld => ?_)
    · exact dx_below (below_drew (Below.refl _ _))
    refine wpAnyH_take (i := 0) (oi := ⟨some 13, _, _, _, _, _⟩) (v := (sdV x A c (some ad) d)) rfl (by kernel_rfl) (by kernel_rfl) (by kernel_rfl) (fun _ _ _ h => h) (yieldsIf_load_at (by rfl) 31 _ rfl ⟨w.heap.size, 0, none⟩ rfl (sdL x A c (some ad) d) _ (fun Y h => Bxo.at ((h.block _ HX.out.lt (by omega)).trans HX.out)) Try.underlying31 rfl info_sd) (by assumption) ?_
    try simp only [Act.put, List.setIfInBounds_toArray, List.set_cons_zero, List.set_cons_succ]
    refine wpAnyH_take (i := 1) (oi := ⟨some 14, _, _, _, _, _⟩) (v := ?_) rfl (by kernel_rfl) (by kernel_rfl) (by kernel_rfl) (fun _ _ _ h => h) (Or.inl ⟨by rfl, ?_⟩) (by assumption) ?_
    rotate_left
    · intro w hSw; (try dsimp only at hSw); go_simp; (try with_reducible rfl)
    try simp only [Act.put, List.setIfInBounds_toArray, List.set_cons_zero, List.set_cons_succ]
    refine wpAnyH_take (i := 2) (oi := ⟨some 15, _, _, _, _, _⟩) (v := ?_) rfl (by kernel_rfl) (by kernel_rfl) (by kernel_rfl) (fun _ _ _ h => h) (Or.inl ⟨by rfl, ?_⟩) (by assumption) ?_
    rotate_left
    · intro w hSw; (try dsimp only at hSw); go_simp; (try with_reducible rfl)
    try simp only [Act.put, List.setIfInBounds_toArray, List.set_cons_zero, List.set_cons_succ]
    refine wpAnyH_take (i := 4) (oi := ⟨some 17, _, _, _, _, _⟩) (v := ?_) rfl (by kernel_rfl) (by kernel_rfl) (by kernel_rfl) (fun _ _ _ h => h) (Or.inl ⟨by rfl, ?_⟩) (by assumption) ?_
    rotate_left
    · intro w hSw; (try dsimp only at hSw); go_simp; (try with_reducible rfl)
    try simp only [Act.put, List.setIfInBounds_toArray, List.set_cons_zero, List.set_cons_succ]
    refine wpAnyH_take (i := 5) (oi := ⟨some 18, _, _, _, _, _⟩) (v := ?_) rfl (by kernel_rfl) (by kernel_rfl) (by kernel_rfl) (fun _ _ _ h => h) (Or.inl ⟨by rfl, ?_⟩) (by assumption) ?_
    rotate_left
    · intro w hSw; have zc := Bxo.cell ((hSw.block _ HX.out.lt (by omega)).trans HX.out) 1 rfl; (try dsimp only at hSw); go_simp; (try with_reducible rfl)
    try simp only [Act.put, List.setIfInBounds_toArray, List.set_cons_zero, List.set_cons_succ]
    refine wpAnyH_take (i := 6) (oi := ⟨some 19, _, _, _, _, _⟩) (v := ?_) rfl (by kernel_rfl) (by kernel_rfl) (by kernel_rfl) (fun _ _ _ h => h) (Or.inl ⟨by rfl, ?_⟩) (by assumption) ?_
    rotate_left
    · intro w hSw; (try dsimp only at hSw); go_simp; (try with_reducible rfl)
    try simp only [Act.put, List.setIfInBounds_toArray, List.set_cons_zero, List.set_cons_succ]
    refine wpAnyH_take (i := 7) (oi := ⟨some 20, _, _, _, _, _⟩) (v := ?_) rfl (by kernel_rfl) (by kernel_rfl) (by kernel_rfl) (fun _ _ _ h => h) (Or.inl ⟨by rfl, ?_⟩) (by assumption) ?_
    rotate_left
    · intro w hSw; (try dsimp only at hSw); go_simp; (try with_reducible rfl)
    try simp only [Act.put, List.setIfInBounds_toArray, List.set_cons_zero, List.set_cons_succ]
    refine wpAnyH_take (i := 8) (oi := ⟨some 21, _, _, _, _, _⟩) (v := (flV f)) rfl (by kernel_rfl) (by kernel_rfl) (by kernel_rfl) (fun _ _ _ h => h) (yieldsIf_load_at (by rfl) 40 _ rfl (ad.add (i * 12)) rfl (flL f) _ (fun Y h => HFC.out Y (h.low y1)) Try.underlying40 rfl info_fl) (by assumption) ?_
    try simp only [Act.put, List.setIfInBounds_toArray, List.set_cons_zero, List.set_cons_succ]
    refine wpAnyH_ready (rs := [3]) (by kernel_rfl) (by simp) (AllReadyH.cons (o := ⟨some 16, _, _, _, _, _⟩) rfl (fun Kc hKc => ?_) AllReadyH.nil)
    go_simp
    go_at_call 42; refine (rwith12 x A c (some ad) d i none W2.drew (HC.out.at (below_drew (Below.refl _ _))) hi hx false rfl fl0 rfl).mono ?_; rintro e w5 ⟨A5, c5, B5, d5, rfl, hn5⟩; have HN5 := Go.Lib.hid hn5; have HZ5 := Go.Lib.hid (HZ.out.keep hn5.below HZ.out.lt); have HY5 := Go.Lib.hid (HY.out.keep hn5.below HY.out.lt); have hz5 := hn5.below.size; clear hn5; dsimp only
    refine hKc.out _ _ (hHeld.trans (dx_below HN5.out.below)) (fun hHeld => ?_)
    clear hKc Kc
    try simp only [Act.put, List.setIfInBounds_toArray, List.set_cons_zero, List.set_cons_succ]
    refine wpAnyH_ready (rs := [9]) (by kernel_rfl) (by simp) (AllReadyH.cons (o := ⟨none, _, _, _, _, _⟩) rfl (fun Kc hKc => ?_) AllReadyH.nil)
    rw [if_pos (by rfl)]
    refine step_store_any 31 _ _ rfl (w.heap.size + 1) 0 31 _ (sdL ⟨x.slots.set i none, x.now⟩ A5 c5 B5 d5) _ rfl rfl rfl HZ5.out info_sd (by show 0 + 3 ≤ 3; omega) (by simp [Value.oneCell']) ?_; intro w6 hb6 ho6; have HB6 := Go.Lib.hid hb6; have HO6 := Go.Lib.hid ho6; have HY6 := Go.Lib.hid (HY5.out.only ho6 (by omega)); clear hb6 ho6
    refine hKc.out _ _ (hHeld.trans (dx_only HO6.out (.inl rfl))) (fun hHeld => ?_)
    clear hKc Kc
    try simp only [Act.put, List.setIfInBounds_toArray, List.set_cons_zero, List.set_cons_succ]
    refine wpAnyH_ready (rs := [10]) (by kernel_rfl) (by simp) (AllReadyH.cons (o := ⟨none, _, _, _, _, _⟩) rfl (fun Kc hKc => ?_) AllReadyH.nil)
    rw [if_pos (by rfl)]
    refine step_store_any 40 _ _ rfl (w.heap.size + 1 + 1) 0 40 _ (flL f) _ rfl rfl rfl HY6.out info_fl (by show 0 + 12 ≤ 12; omega) (fl_one1 f) ?_; intro w7 hb7 ho7; have HB7 := Go.Lib.hid hb7; have HO7 := Go.Lib.hid ho7; have HB6 := Go.Lib.hid (HB6.out.only ho7 (by omega)); clear hb7 ho7
    refine hKc.out _ _ (hHeld.trans (dx_only HO7.out (.inr rfl))) (fun hHeld => ?_)
    clear hKc Kc
    try simp only [Act.put, List.setIfInBounds_toArray, List.set_cons_zero, List.set_cons_succ]
    refine wpAnyH_take (i := 11) (oi := ⟨some 6, _, _, _, _, _⟩) (v := ?_) rfl (by kernel_rfl) (by kernel_rfl) (by kernel_rfl) (fun _ _ _ h => h) (Or.inl ⟨by rfl, ?_⟩) (by assumption) ?_
    rotate_left
    · intro w hSw; (try dsimp only at hSw); go_simp; (try with_reducible rfl)
    try simp only [Act.put, List.setIfInBounds_toArray, List.set_cons_zero, List.set_cons_succ]
    refine wpAnyH_done (by kernel_rfl) ?_ _
    have yq := hHeld
    clear hHeld
    go_wp2
    have hs6 := HO6.out.size
    have hs7 := HO7.out.size
    exact bodyPost_ret (v := .tuple #[.agg (sdL ⟨x.slots.set i none, x.now⟩ A5 c5 B5 d5).toArray, .agg (flL f).toArray, .int .i64 0]) (results_cct (p := 4) (q := 5) (u := 6) rfl _ _ (w.heap.size + 1) (w.heap.size + 1 + 1) _ _ _ _ rfl rfl HB6.out HB7.out Try.underlying31 rfl info_sd Try.underlying40 rfl info_fl) rfl ⟨A5, c5, B5, d5, by rw [HQ.out], by rw [HQ.out]; exact HN5.out.wide (w1 := W2.drew) (below_drew y1) (yq.low y1) (fun k h1 h2 => (HO7.out.block k (by have : W.drew.heap.size = W.heap.size := rfl; omega)).trans (HO6.out.block k (by have : W.drew.heap.size = W.heap.size := rfl; omega))) (by omega)⟩
end Go.Proofs.Ytofpalmghdapkaa

/- The document's Find over a store of flows. -/
namespace Go.Proofs.Ytofpalmghdapkaa
open Go.ChangeShapes Go.WideShapes Go.ChangeAt Go.RowKit
set_option linter.unusedVariables false
set_option linter.unusedSimpArgs false

theorem findS_is {x : Sr} {t : Tp} {k : Nat} {f : Fl} (hs : slotF x.slots k = some f) (ht : hasT f t = true) (hn : ∀ j, j < k → isT t (slotF x.slots j) = false) : findS x t = ((k : Int), !sameTp f.there t, true) := by
  have hk := slot_lt hs
  have : findF x.slots t = some k := by
    unfold findF
    rw [List.findIdx?_eq_some_iff_getElem]
    refine ⟨hk, by rw [← slot_get hk, hs]; exact ht, fun j hj => ?_⟩
    rw [← slot_get (by omega), hn j hj]
    decide
  unfold findS
  rw [this]
  dsimp only
  rw [hs]
  rfl
theorem findS_not {x : Sr} {t : Tp} (hn : ∀ j, j < x.slots.length → isT t (slotF x.slots j) = false) : findS x t = (0, false, false) := by
  have : findF x.slots t = none := by
    unfold findF
    rw [List.findIdx?_eq_none_iff]
    intro o ho
    obtain ⟨i, hi, rfl⟩ := List.getElem_of_mem ho
    rw [← slot_get hi]
    exact hn i hi
  unfold findS
  rw [this]
set_option maxRecDepth 100000 in
set_option maxHeartbeats 8000000 in
theorem rfind12 (x : Sr) (A : Option Addr) (c : Nat) (B : Option Addr) (d : Nat) (t : Tp) (w : World) (h : SdAt w x A c B d) (q : Int × Bool × Bool) (hq : findS x t = q) :
    Calls Try.prog 22 #[sdV x A c B d, tpV t] w fun e w' => e = .returned (.tuple #[.int .i64 q.1, .bool q.2.1, .bool q.2.2]) ∧ Below w.heap.size w w' := by
  have HQ := Go.Lib.hid hq
  have y0 : Below w.heap.size w ((w.alloc (oSd x A c B d)).alloc (oTp t)) := below_alloc (below_alloc (Below.refl _ _) (Nat.le_refl _) _) (by simp) _
  have h1 := (Bxo.made w 31 (sdL x A c B d)).alloc (oTp t)
  have h2 : Bxo ((w.alloc (oSd x A c B d)).alloc (oTp t)) (w.heap.size + 1) 38 (tpL t) := by
    have := Bxo.made (w.alloc (oSd x A c B d)) 38 (tpL t)
    rwa [show (w.alloc (oSd x A c B d)).heap.size = w.heap.size + 1 by simp] at this
  have HC := Go.Lib.hid h
  have hlc := h.ulen
  have hld := h.flen
  have hcc := h.used.cap
  have hdc := h.flows.cap
  clear hq h
  go_enter Try.func22, Try.ntmps22
  go_upto_region 1 with fail
  generalize (w.alloc (oSd x A c B d)).alloc (oTp t) = W at *
  have HX := Go.Lib.hid h1
  have HT := Go.Lib.hid h2
  clear h1 h2
  go_wp2_with fail
  go_loopw [7] (fun i wr => ∃ k : Nat, k ≤ x.slots.length ∧ i = .int .i64 k ∧ Hid (∀ j, j < k → isT t (slotF x.slots j) = false) ∧ Hid (Below W.heap.size W wr)) (fun i _ => x.slots.length - (intOf i).toNat)
  case atStart => exact ⟨0, by omega, rfl, Go.Lib.hid (fun j h => by omega), Go.Lib.hid (Below.refl _ _)⟩
  case round =>
    rename World => wo
    obtain ⟨k, hk, rfl, HN, HB⟩ := hrel
    have k0 : (0 : Int) ≤ (k : Int) := by omega
    have yo := y0.trans (HB.out.mono y0.size)
    have HX := Go.Lib.hid (HX.out.keep HB.out HX.out.lt)
    have HT := Go.Lib.hid (HT.out.keep HB.out HT.out.lt)
    have c0 := HX.out.cell 0 rfl
    by_cases hkl : k < x.slots.length
    · have t1 : (k : Int) < (x.slots.length : Int) := by omega
      have t2 : (k : Int) < (d : Int) := by omega
      obtain ⟨ad, rfl, hu⟩ := HC.out.ucell hkl
      obtain ⟨bd, rfl, hf⟩ := HC.out.fcell hkl
      cases hs : slotF x.slots k with
      | none =>
        rw [hs] at hu
        have HU : Hid (∀ Y, Below wo.heap.size wo Y → Y.cell? (ad.add k) = some (.bool false)) := Go.Lib.hid (fun Y h => hu Y (yo.trans (h.mono yo.size)))
        have HS := Go.Lib.hid hs
        have hno : isT t none = false := rfl
        clear hu hf hs yo
        go_upto_region 4 with fail
        try simp only [Act.put, List.setIfInBounds_toArray, List.set_cons_zero, List.set_cons_succ]
        refine wp_region_held_drew (S := fun Y => Below wo.heap.size wo Y) (by kernel_rfl) ?_ (fun hHeld => ?_)
        · exact below_drew (Below.refl _ _)
        refine wpAnyH_take (i := 0) (oi := ⟨some 15, _, _, _, _, _⟩) (v := ?_) rfl (by kernel_rfl) (by kernel_rfl) (by kernel_rfl) (fun _ _ _ h => h) (Or.inl ⟨by rfl, ?_⟩) (by assumption) ?_
        rotate_left
        · intro w hSw; (try dsimp only at hSw); go_simp; (try with_reducible rfl)
        try simp only [Act.put, List.setIfInBounds_toArray, List.set_cons_zero, List.set_cons_succ]
        refine wpAnyH_take (i := 1) (oi := ⟨some 16, _, _, _, _, _⟩) (v := ?_) rfl (by kernel_rfl) (by kernel_rfl) (by kernel_rfl) (fun _ _ _ h => h) (Or.inl ⟨by rfl, ?_⟩) (by assumption) ?_
        rotate_left
        · intro w hSw; have zc := (HX.out.keep hSw HX.out.lt).cell 0 rfl; (try dsimp only at hSw); go_simp; (try with_reducible rfl)
        try simp only [Act.put, List.setIfInBounds_toArray, List.set_cons_zero, List.set_cons_succ]
        refine wpAnyH_take (i := 2) (oi := ⟨some 17, _, _, _, _, _⟩) (v := ?_) rfl (by kernel_rfl) (by kernel_rfl) (by kernel_rfl) (fun _ _ _ h => h) (Or.inl ⟨by rfl, ?_⟩) (by assumption) ?_
        rotate_left
        · intro w hSw; (try dsimp only at hSw); go_simp; (try with_reducible rfl)
        try simp only [Act.put, List.setIfInBounds_toArray, List.set_cons_zero, List.set_cons_succ]
        refine wpAnyH_take (i := 3) (oi := ⟨some 18, _, _, _, _, _⟩) (v := ?_) rfl (by kernel_rfl) (by kernel_rfl) (by kernel_rfl) (fun _ _ _ h => h) (Or.inl ⟨by rfl, ?_⟩) (by assumption) ?_
        rotate_left
        · intro w hSw; (try dsimp only at hSw); go_simp; (try with_reducible rfl)
        try simp only [Act.put, List.setIfInBounds_toArray, List.set_cons_zero, List.set_cons_succ]
        refine wpAnyH_take (i := 4) (oi := ⟨some 19, _, _, _, _, _⟩) (v := ?_) rfl (by kernel_rfl) (by kernel_rfl) (by kernel_rfl) (fun _ _ _ h => h) (Or.inl ⟨by rfl, ?_⟩) (by assumption) ?_
        rotate_left
        · intro w hSw; have zu := HU.out _ hSw; (try dsimp only at hSw); go_simp; (try with_reducible rfl)
        try simp only [Act.put, List.setIfInBounds_toArray, List.set_cons_zero, List.set_cons_succ]
        refine wpAnyH_take (i := 5) (oi := ⟨some 20, _, _, _, _, _⟩) (v := ?_) rfl (by kernel_rfl) (by kernel_rfl) (by kernel_rfl) (fun _ _ _ h => h) (Or.inl ⟨by rfl, ?_⟩) (by assumption) ?_
        rotate_left
        · intro w hSw; (try dsimp only at hSw); go_simp; (try with_reducible rfl)
        try simp only [Act.put, List.setIfInBounds_toArray, List.set_cons_zero, List.set_cons_succ]
        refine wpAnyH_take (i := 6) (oi := ⟨some 21, _, _, _, _, _⟩) (v := undef) rfl (by kernel_rfl) (by kernel_rfl) (by kernel_rfl) (fun _ _ _ h => h) (Or.inr ⟨by rfl, rfl⟩) (by assumption) ?_
        try simp only [Act.put, List.setIfInBounds_toArray, List.set_cons_zero, List.set_cons_succ]
        refine wpAnyH_take (i := 7) (oi := ⟨some 22, _, _, _, _, _⟩) (v := undef) rfl (by kernel_rfl) (by kernel_rfl) (by kernel_rfl) (fun _ _ _ h => h) (Or.inr ⟨by rfl, rfl⟩) (by assumption) ?_
        try simp only [Act.put, List.setIfInBounds_toArray, List.set_cons_zero, List.set_cons_succ]
        refine wpAnyH_take (i := 8) (oi := ⟨some 23, _, _, _, _, _⟩) (v := undef) rfl (by kernel_rfl) (by kernel_rfl) (by kernel_rfl) (fun _ _ _ h => h) (Or.inr ⟨by rfl, rfl⟩) (by assumption) ?_
        try simp only [Act.put, List.setIfInBounds_toArray, List.set_cons_zero, List.set_cons_succ]
        refine wpAnyH_take (i := 9) (oi := ⟨some 24, _, _, _, _, _⟩) (v := undef) rfl (by kernel_rfl) (by kernel_rfl) (by kernel_rfl) (fun _ _ _ h => h) (Or.inr ⟨by rfl, rfl⟩) (by assumption) ?_
        try simp only [Act.put, List.setIfInBounds_toArray, List.set_cons_zero, List.set_cons_succ]
        refine wpAnyH_take (i := 10) (oi := ⟨some 25, _, _, _, _, _⟩) (v := undef) rfl (by kernel_rfl) (by kernel_rfl) (by kernel_rfl) (fun _ _ _ h => h) (Or.inr ⟨by rfl, rfl⟩) (by assumption) ?_
        try simp only [Act.put, List.setIfInBounds_toArray, List.set_cons_zero, List.set_cons_succ]
        refine wpAnyH_take (i := 11) (oi := ⟨some 26, _, _, _, _, _⟩) (v := undef) rfl (by kernel_rfl) (by kernel_rfl) (by kernel_rfl) (fun _ _ _ h => h) (Or.inr ⟨by rfl, rfl⟩) (by assumption) ?_
        try simp only [Act.put, List.setIfInBounds_toArray, List.set_cons_zero, List.set_cons_succ]
        refine wpAnyH_take (i := 12) (oi := ⟨some 27, _, _, _, _, _⟩) (v := undef) rfl (by kernel_rfl) (by kernel_rfl) (by kernel_rfl) (fun _ _ _ h => h) (Or.inr ⟨by rfl, rfl⟩) (by assumption) ?_
        try simp only [Act.put, List.setIfInBounds_toArray, List.set_cons_zero, List.set_cons_succ]
        refine wpAnyH_take (i := 13) (oi := ⟨some 28, _, _, _, _, _⟩) (v := undef) rfl (by kernel_rfl) (by kernel_rfl) (by kernel_rfl) (fun _ _ _ h => h) (Or.inr ⟨by rfl, rfl⟩) (by assumption) ?_
        try simp only [Act.put, List.setIfInBounds_toArray, List.set_cons_zero, List.set_cons_succ]
        refine wpAnyH_take (i := 14) (oi := ⟨some 29, _, _, _, _, _⟩) (v := undef) rfl (by kernel_rfl) (by kernel_rfl) (by kernel_rfl) (fun _ _ _ h => h) (Or.inr ⟨by rfl, rfl⟩) (by assumption) ?_
        try simp only [Act.put, List.setIfInBounds_toArray, List.set_cons_zero, List.set_cons_succ]
        refine wpAnyH_take (i := 15) (oi := ⟨some 30, _, _, _, _, _⟩) (v := undef) rfl (by kernel_rfl) (by kernel_rfl) (by kernel_rfl) (fun _ _ _ h => h) (Or.inr ⟨by rfl, rfl⟩) (by assumption) ?_
        try simp only [Act.put, List.setIfInBounds_toArray, List.set_cons_zero, List.set_cons_succ]
        refine wpAnyH_take (i := 16) (oi := ⟨some 31, _, _, _, _, _⟩) (v := undef) rfl (by kernel_rfl) (by kernel_rfl) (by kernel_rfl) (fun _ _ _ h => h) (Or.inr ⟨by rfl, rfl⟩) (by assumption) ?_
        try simp only [Act.put, List.setIfInBounds_toArray, List.set_cons_zero, List.set_cons_succ]
        refine wpAnyH_take (i := 17) (oi := ⟨some 32, _, _, _, _, _⟩) (v := undef) rfl (by kernel_rfl) (by kernel_rfl) (by kernel_rfl) (fun _ _ _ h => h) (Or.inr ⟨by rfl, rfl⟩) (by assumption) ?_
        try simp only [Act.put, List.setIfInBounds_toArray, List.set_cons_zero, List.set_cons_succ]
        refine wpAnyH_take (i := 18) (oi := ⟨some 33, _, _, _, _, _⟩) (v := undef) rfl (by kernel_rfl) (by kernel_rfl) (by kernel_rfl) (fun _ _ _ h => h) (Or.inr ⟨by rfl, rfl⟩) (by assumption) ?_
        try simp only [Act.put, List.setIfInBounds_toArray, List.set_cons_zero, List.set_cons_succ]
        refine wpAnyH_take (i := 19) (oi := ⟨some 34, _, _, _, _, _⟩) (v := undef) rfl (by kernel_rfl) (by kernel_rfl) (by kernel_rfl) (fun _ _ _ h => h) (Or.inr ⟨by rfl, rfl⟩) (by assumption) ?_
        try simp only [Act.put, List.setIfInBounds_toArray, List.set_cons_zero, List.set_cons_succ]
        refine wpAnyH_take (i := 20) (oi := ⟨some 35, _, _, _, _, _⟩) (v := undef) rfl (by kernel_rfl) (by kernel_rfl) (by kernel_rfl) (fun _ _ _ h => h) (Or.inr ⟨by rfl, rfl⟩) (by assumption) ?_
        try simp only [Act.put, List.setIfInBounds_toArray, List.set_cons_zero, List.set_cons_succ]
        refine wpAnyH_take (i := 21) (oi := ⟨some 36, _, _, _, _, _⟩) (v := undef) rfl (by kernel_rfl) (by kernel_rfl) (by kernel_rfl) (fun _ _ _ h => h) (Or.inr ⟨by rfl, rfl⟩) (by assumption) ?_
        try simp only [Act.put, List.setIfInBounds_toArray, List.set_cons_zero, List.set_cons_succ]
        refine wpAnyH_take (i := 22) (oi := ⟨some 37, _, _, _, _, _⟩) (v := undef) rfl (by kernel_rfl) (by kernel_rfl) (by kernel_rfl) (fun _ _ _ h => h) (Or.inr ⟨by rfl, rfl⟩) (by assumption) ?_
        try simp only [Act.put, List.setIfInBounds_toArray, List.set_cons_zero, List.set_cons_succ]
        refine wpAnyH_take (i := 23) (oi := ⟨some 38, _, _, _, _, _⟩) (v := undef) rfl (by kernel_rfl) (by kernel_rfl) (by kernel_rfl) (fun _ _ _ h => h) (Or.inr ⟨by rfl, rfl⟩) (by assumption) ?_
        try simp only [Act.put, List.setIfInBounds_toArray, List.set_cons_zero, List.set_cons_succ]
        refine wpAnyH_take (i := 24) (oi := ⟨some 39, _, _, _, _, _⟩) (v := ?_) rfl (by kernel_rfl) (by kernel_rfl) (by kernel_rfl) (fun _ _ _ h => h) (Or.inl ⟨by rfl, ?_⟩) (by assumption) ?_
        rotate_left
        · intro w hSw; (try dsimp only at hSw); go_simp; (try with_reducible rfl)
        try simp only [Act.put, List.setIfInBounds_toArray, List.set_cons_zero, List.set_cons_succ]
        refine wpAnyH_done (by kernel_rfl) ?_ _
        have yq := hHeld
        clear hHeld
        go_wp2
        go_round
        case rel => exact ⟨k + 1, by omega, by go_num, Go.Lib.hid (fun j hj => by
          by_cases e : j = k
          · subst e; rw [HS.out]; exact hno
          · exact HN.out j (by omega)), Go.Lib.hid (HB.out.trans (yq.mono HB.out.size))⟩
        case measure => simp [intOf]; omega
      | some f =>
        rw [hs] at hu hf
        have HU : Hid (∀ Y, Below wo.heap.size wo Y → Y.cell? (ad.add k) = some (.bool true)) := Go.Lib.hid (fun Y h => hu Y (yo.trans (h.mono yo.size)))
        have HF : Hid (∀ Y, Below wo.heap.size wo Y → ∀ j v, (flL f)[j]? = some v → Y.cell? ((bd.add (k * 12)).add j) = some v) := Go.Lib.hid (fun Y h => hf Y (yo.trans (h.mono yo.size)))
        have HS := Go.Lib.hid hs
        clear hu hf hs yo
        cases e1 : sameTp f.there t
        · cases e2 : sameTp f.back t
          · have hno : isT t (some f) = false := by show (sameTp f.there t || sameTp f.back t) = false; rw [e1, e2]; rfl
            have ea := fun W => (eqTp f.there t W).trans (by rw [e1])
            have eb := fun W => (eqTp f.back t W).trans (by rw [e2])
            go_upto_region 4 with fail
            try simp only [Act.put, List.setIfInBounds_toArray, List.set_cons_zero, List.set_cons_succ]
            refine wp_region_held_drew (S := fun Y => Below wo.heap.size wo Y) (by kernel_rfl) ?_ (fun hHeld => ?_)
            · exact below_drew (Below.refl _ _)
            refine wpAnyH_take (i := 0) (oi := ⟨some 15, _, _, _, _, _⟩) (v := ?_) rfl (by kernel_rfl) (by kernel_rfl) (by kernel_rfl) (fun _ _ _ h => h) (Or.inl ⟨by rfl, ?_⟩) (by assumption) ?_
            rotate_left
            · intro w hSw; (try dsimp only at hSw); go_simp; (try with_reducible rfl)
            try simp only [Act.put, List.setIfInBounds_toArray, List.set_cons_zero, List.set_cons_succ]
            refine wpAnyH_take (i := 1) (oi := ⟨some 16, _, _, _, _, _⟩) (v := ?_) rfl (by kernel_rfl) (by kernel_rfl) (by kernel_rfl) (fun _ _ _ h => h) (Or.inl ⟨by rfl, ?_⟩) (by assumption) ?_
            rotate_left
            · intro w hSw; have zc := (HX.out.keep hSw HX.out.lt).cell 0 rfl; (try dsimp only at hSw); go_simp; (try with_reducible rfl)
            try simp only [Act.put, List.setIfInBounds_toArray, List.set_cons_zero, List.set_cons_succ]
            refine wpAnyH_take (i := 2) (oi := ⟨some 17, _, _, _, _, _⟩) (v := ?_) rfl (by kernel_rfl) (by kernel_rfl) (by kernel_rfl) (fun _ _ _ h => h) (Or.inl ⟨by rfl, ?_⟩) (by assumption) ?_
            rotate_left
            · intro w hSw; (try dsimp only at hSw); go_simp; (try with_reducible rfl)
            try simp only [Act.put, List.setIfInBounds_toArray, List.set_cons_zero, List.set_cons_succ]
            refine wpAnyH_take (i := 3) (oi := ⟨some 18, _, _, _, _, _⟩) (v := ?_) rfl (by kernel_rfl) (by kernel_rfl) (by kernel_rfl) (fun _ _ _ h => h) (Or.inl ⟨by rfl, ?_⟩) (by assumption) ?_
            rotate_left
            · intro w hSw; (try dsimp only at hSw); go_simp; (try with_reducible rfl)
            try simp only [Act.put, List.setIfInBounds_toArray, List.set_cons_zero, List.set_cons_succ]
            refine wpAnyH_take (i := 4) (oi := ⟨some 19, _, _, _, _, _⟩) (v := ?_) rfl (by kernel_rfl) (by kernel_rfl) (by kernel_rfl) (fun _ _ _ h => h) (Or.inl ⟨by rfl, ?_⟩) (by assumption) ?_
            rotate_left
            · intro w hSw; have zu := HU.out _ hSw; (try dsimp only at hSw); go_simp; (try with_reducible rfl)
            try simp only [Act.put, List.setIfInBounds_toArray, List.set_cons_zero, List.set_cons_succ]
            refine wpAnyH_take (i := 5) (oi := ⟨some 20, _, _, _, _, _⟩) (v := ?_) rfl (by kernel_rfl) (by kernel_rfl) (by kernel_rfl) (fun _ _ _ h => h) (Or.inl ⟨by rfl, ?_⟩) (by assumption) ?_
            rotate_left
            · intro w hSw; (try dsimp only at hSw); go_simp; (try with_reducible rfl)
            try simp only [Act.put, List.setIfInBounds_toArray, List.set_cons_zero, List.set_cons_succ]
            refine wpAnyH_take (i := 6) (oi := ⟨some 21, _, _, _, _, _⟩) (v := ?_) rfl (by kernel_rfl) (by kernel_rfl) (by kernel_rfl) (fun _ _ _ h => h) (Or.inl ⟨by rfl, ?_⟩) (by assumption) ?_
            rotate_left
            · intro w hSw; (try dsimp only at hSw); go_simp; (try with_reducible rfl)
            try simp only [Act.put, List.setIfInBounds_toArray, List.set_cons_zero, List.set_cons_succ]
            refine wpAnyH_take (i := 7) (oi := ⟨some 22, _, _, _, _, _⟩) (v := ?_) rfl (by kernel_rfl) (by kernel_rfl) (by kernel_rfl) (fun _ _ _ h => h) (Or.inl ⟨by rfl, ?_⟩) (by assumption) ?_
            rotate_left
            · intro w hSw; have zc := (HX.out.keep hSw HX.out.lt).cell 1 rfl; (try dsimp only at hSw); go_simp; (try with_reducible rfl)
            try simp only [Act.put, List.setIfInBounds_toArray, List.set_cons_zero, List.set_cons_succ]
            refine wpAnyH_take (i := 8) (oi := ⟨some 23, _, _, _, _, _⟩) (v := ?_) rfl (by kernel_rfl) (by kernel_rfl) (by kernel_rfl) (fun _ _ _ h => h) (Or.inl ⟨by rfl, ?_⟩) (by assumption) ?_
            rotate_left
            · intro w hSw; (try dsimp only at hSw); go_simp; (try with_reducible rfl)
            try simp only [Act.put, List.setIfInBounds_toArray, List.set_cons_zero, List.set_cons_succ]
            refine wpAnyH_take (i := 9) (oi := ⟨some 24, _, _, _, _, _⟩) (v := ?_) rfl (by kernel_rfl) (by kernel_rfl) (by kernel_rfl) (fun _ _ _ h => h) (Or.inl ⟨by rfl, ?_⟩) (by assumption) ?_
            rotate_left
            · intro w hSw; (try dsimp only at hSw); go_simp; (try with_reducible rfl)
            try simp only [Act.put, List.setIfInBounds_toArray, List.set_cons_zero, List.set_cons_succ]
            refine wpAnyH_take (i := 10) (oi := ⟨some 25, _, _, _, _, _⟩) (v := ?_) rfl (by kernel_rfl) (by kernel_rfl) (by kernel_rfl) (fun _ _ _ h => h) (Or.inl ⟨by rfl, ?_⟩) (by assumption) ?_
            rotate_left
            · intro w hSw; (try dsimp only at hSw); go_simp; (try with_reducible rfl)
            try simp only [Act.put, List.setIfInBounds_toArray, List.set_cons_zero, List.set_cons_succ]
            refine wpAnyH_take (i := 11) (oi := ⟨some 26, _, _, _, _, _⟩) (v := (tpV f.there)) rfl (by kernel_rfl) (by kernel_rfl) (by kernel_rfl) (fun _ _ _ h => h) (yieldsIf_load_at (by rfl) 38 _ rfl (bd.add (k * 12)) rfl (tpL f.there) _ (fun Y h => fl_there (HF.out Y h)) Try.underlying38 rfl info_tp) (by assumption) ?_
            try simp only [Act.put, List.setIfInBounds_toArray, List.set_cons_zero, List.set_cons_succ]
            refine wpAnyH_take (i := 12) (oi := ⟨some 27, _, _, _, _, _⟩) (v := (tpV t)) rfl (by kernel_rfl) (by kernel_rfl) (by kernel_rfl) (fun _ _ _ h => h) (yieldsIf_load_at (by rfl) 38 _ rfl ⟨w.heap.size + 1, 0, none⟩ rfl (tpL t) _ (fun Y h => (HT.out.keep h HT.out.lt).at) Try.underlying38 rfl info_tp) (by assumption) ?_
            try simp only [Act.put, List.setIfInBounds_toArray, List.set_cons_zero, List.set_cons_succ]
            refine wpAnyH_take (i := 13) (oi := ⟨some 28, _, _, _, _, _⟩) (v := ?_) rfl (by kernel_rfl) (by kernel_rfl) (by kernel_rfl) (fun _ _ _ h => h) (Or.inl ⟨by rfl, ?_⟩) (by assumption) ?_
            rotate_left
            · intro w hSw; (try dsimp only at hSw); go_simp; (try with_reducible rfl)
            try simp only [Act.put, List.setIfInBounds_toArray, List.set_cons_zero, List.set_cons_succ]
            refine wpAnyH_take (i := 14) (oi := ⟨some 29, _, _, _, _, _⟩) (v := ?_) rfl (by kernel_rfl) (by kernel_rfl) (by kernel_rfl) (fun _ _ _ h => h) (Or.inl ⟨by rfl, ?_⟩) (by assumption) ?_
            rotate_left
            · intro w hSw; (try dsimp only at hSw); go_simp; (try with_reducible rfl)
            try simp only [Act.put, List.setIfInBounds_toArray, List.set_cons_zero, List.set_cons_succ]
            refine wpAnyH_take (i := 15) (oi := ⟨some 30, _, _, _, _, _⟩) (v := ?_) rfl (by kernel_rfl) (by kernel_rfl) (by kernel_rfl) (fun _ _ _ h => h) (Or.inl ⟨by rfl, ?_⟩) (by assumption) ?_
            rotate_left
            · intro w hSw; (try dsimp only at hSw); go_simp; (try with_reducible rfl)
            try simp only [Act.put, List.setIfInBounds_toArray, List.set_cons_zero, List.set_cons_succ]
            refine wpAnyH_take (i := 16) (oi := ⟨some 31, _, _, _, _, _⟩) (v := ?_) rfl (by kernel_rfl) (by kernel_rfl) (by kernel_rfl) (fun _ _ _ h => h) (Or.inl ⟨by rfl, ?_⟩) (by assumption) ?_
            rotate_left
            · intro w hSw; have zc := (HX.out.keep hSw HX.out.lt).cell 1 rfl; (try dsimp only at hSw); go_simp; (try with_reducible rfl)
            try simp only [Act.put, List.setIfInBounds_toArray, List.set_cons_zero, List.set_cons_succ]
            refine wpAnyH_take (i := 17) (oi := ⟨some 32, _, _, _, _, _⟩) (v := ?_) rfl (by kernel_rfl) (by kernel_rfl) (by kernel_rfl) (fun _ _ _ h => h) (Or.inl ⟨by rfl, ?_⟩) (by assumption) ?_
            rotate_left
            · intro w hSw; (try dsimp only at hSw); go_simp; (try with_reducible rfl)
            try simp only [Act.put, List.setIfInBounds_toArray, List.set_cons_zero, List.set_cons_succ]
            refine wpAnyH_take (i := 18) (oi := ⟨some 33, _, _, _, _, _⟩) (v := ?_) rfl (by kernel_rfl) (by kernel_rfl) (by kernel_rfl) (fun _ _ _ h => h) (Or.inl ⟨by rfl, ?_⟩) (by assumption) ?_
            rotate_left
            · intro w hSw; (try dsimp only at hSw); go_simp; (try with_reducible rfl)
            try simp only [Act.put, List.setIfInBounds_toArray, List.set_cons_zero, List.set_cons_succ]
            refine wpAnyH_take (i := 19) (oi := ⟨some 34, _, _, _, _, _⟩) (v := ?_) rfl (by kernel_rfl) (by kernel_rfl) (by kernel_rfl) (fun _ _ _ h => h) (Or.inl ⟨by rfl, ?_⟩) (by assumption) ?_
            rotate_left
            · intro w hSw; (try dsimp only at hSw); go_simp; (try with_reducible rfl)
            try simp only [Act.put, List.setIfInBounds_toArray, List.set_cons_zero, List.set_cons_succ]
            refine wpAnyH_take (i := 20) (oi := ⟨some 35, _, _, _, _, _⟩) (v := (tpV f.back)) rfl (by kernel_rfl) (by kernel_rfl) (by kernel_rfl) (fun _ _ _ h => h) (yieldsIf_load_at (by rfl) 38 _ rfl ((bd.add (k * 12)).add 5) rfl (tpL f.back) _ (fun Y h => fl_back (HF.out Y h)) Try.underlying38 rfl info_tp) (by assumption) ?_
            try simp only [Act.put, List.setIfInBounds_toArray, List.set_cons_zero, List.set_cons_succ]
            refine wpAnyH_take (i := 21) (oi := ⟨some 36, _, _, _, _, _⟩) (v := (tpV t)) rfl (by kernel_rfl) (by kernel_rfl) (by kernel_rfl) (fun _ _ _ h => h) (yieldsIf_load_at (by rfl) 38 _ rfl ⟨w.heap.size + 1, 0, none⟩ rfl (tpL t) _ (fun Y h => (HT.out.keep h HT.out.lt).at) Try.underlying38 rfl info_tp) (by assumption) ?_
            try simp only [Act.put, List.setIfInBounds_toArray, List.set_cons_zero, List.set_cons_succ]
            refine wpAnyH_take (i := 22) (oi := ⟨some 37, _, _, _, _, _⟩) (v := ?_) rfl (by kernel_rfl) (by kernel_rfl) (by kernel_rfl) (fun _ _ _ h => h) (Or.inl ⟨by rfl, ?_⟩) (by assumption) ?_
            rotate_left
            · intro w hSw; (try dsimp only at hSw); go_simp; (try with_reducible rfl)
            try simp only [Act.put, List.setIfInBounds_toArray, List.set_cons_zero, List.set_cons_succ]
            refine wpAnyH_take (i := 23) (oi := ⟨some 38, _, _, _, _, _⟩) (v := ?_) rfl (by kernel_rfl) (by kernel_rfl) (by kernel_rfl) (fun _ _ _ h => h) (Or.inl ⟨by rfl, ?_⟩) (by assumption) ?_
            rotate_left
            · intro w hSw; (try dsimp only at hSw); go_simp; (try with_reducible rfl)
            try simp only [Act.put, List.setIfInBounds_toArray, List.set_cons_zero, List.set_cons_succ]
            refine wpAnyH_take (i := 24) (oi := ⟨some 39, _, _, _, _, _⟩) (v := ?_) rfl (by kernel_rfl) (by kernel_rfl) (by kernel_rfl) (fun _ _ _ h => h) (Or.inl ⟨by rfl, ?_⟩) (by assumption) ?_
            rotate_left
            · intro w hSw; (try dsimp only at hSw); go_simp; (try with_reducible rfl)
            try simp only [Act.put, List.setIfInBounds_toArray, List.set_cons_zero, List.set_cons_succ]
            refine wpAnyH_done (by kernel_rfl) ?_ _
            have yq := hHeld
            clear hHeld
            go_wp2
            go_round
            case rel => exact ⟨k + 1, by omega, by go_num, Go.Lib.hid (fun j hj => by
              by_cases e : j = k
              · subst e; rw [HS.out]; exact hno
              · exact HN.out j (by omega)), Go.Lib.hid (HB.out.trans (yq.mono HB.out.size))⟩
            case measure => simp [intOf]; omega
          · have hr : q = ((k : Int), true, true) := by
              rw [← HQ.out, findS_is HS.out (by unfold hasT; rw [e1, e2]; rfl) HN.out, e1]; rfl
            subst hr
            have ea := fun W => (eqTp f.there t W).trans (by rw [e1])
            have eb := fun W => (eqTp f.back t W).trans (by rw [e2])
            have en : ∀ W, (binOp .neq 38 (tpV f.there) (tpV t)).run Try.prog W = .ok (.bool true) W := fun W => (neTp f.there t W).trans (by rw [e1]; rfl)
            go_upto_region 4 with fail
            try simp only [Act.put, List.setIfInBounds_toArray, List.set_cons_zero, List.set_cons_succ]
            refine wp_region_held_drew (S := fun Y => Below wo.heap.size wo Y) (by kernel_rfl) ?_ (fun hHeld => ?_)
            · exact below_drew (Below.refl _ _)
            refine wpAnyH_take (i := 0) (oi := ⟨some 15, _, _, _, _, _⟩) (v := ?_) rfl (by kernel_rfl) (by kernel_rfl) (by kernel_rfl) (fun _ _ _ h => h) (Or.inl ⟨by rfl, ?_⟩) (by assumption) ?_
            rotate_left
            · intro w hSw; (try dsimp only at hSw); go_simp; (try with_reducible rfl)
            try simp only [Act.put, List.setIfInBounds_toArray, List.set_cons_zero, List.set_cons_succ]
            refine wpAnyH_take (i := 1) (oi := ⟨some 16, _, _, _, _, _⟩) (v := ?_) rfl (by kernel_rfl) (by kernel_rfl) (by kernel_rfl) (fun _ _ _ h => h) (Or.inl ⟨by rfl, ?_⟩) (by assumption) ?_
            rotate_left
            · intro w hSw; have zc := (HX.out.keep hSw HX.out.lt).cell 0 rfl; (try dsimp only at hSw); go_simp; (try with_reducible rfl)
            try simp only [Act.put, List.setIfInBounds_toArray, List.set_cons_zero, List.set_cons_succ]
            refine wpAnyH_take (i := 2) (oi := ⟨some 17, _, _, _, _, _⟩) (v := ?_) rfl (by kernel_rfl) (by kernel_rfl) (by kernel_rfl) (fun _ _ _ h => h) (Or.inl ⟨by rfl, ?_⟩) (by assumption) ?_
            rotate_left
            · intro w hSw; (try dsimp only at hSw); go_simp; (try with_reducible rfl)
            try simp only [Act.put, List.setIfInBounds_toArray, List.set_cons_zero, List.set_cons_succ]
            refine wpAnyH_take (i := 3) (oi := ⟨some 18, _, _, _, _, _⟩) (v := ?_) rfl (by kernel_rfl) (by kernel_rfl) (by kernel_rfl) (fun _ _ _ h => h) (Or.inl ⟨by rfl, ?_⟩) (by assumption) ?_
            rotate_left
            · intro w hSw; (try dsimp only at hSw); go_simp; (try with_reducible rfl)
            try simp only [Act.put, List.setIfInBounds_toArray, List.set_cons_zero, List.set_cons_succ]
            refine wpAnyH_take (i := 4) (oi := ⟨some 19, _, _, _, _, _⟩) (v := ?_) rfl (by kernel_rfl) (by kernel_rfl) (by kernel_rfl) (fun _ _ _ h => h) (Or.inl ⟨by rfl, ?_⟩) (by assumption) ?_
            rotate_left
            · intro w hSw; have zu := HU.out _ hSw; (try dsimp only at hSw); go_simp; (try with_reducible rfl)
            try simp only [Act.put, List.setIfInBounds_toArray, List.set_cons_zero, List.set_cons_succ]
            refine wpAnyH_take (i := 5) (oi := ⟨some 20, _, _, _, _, _⟩) (v := ?_) rfl (by kernel_rfl) (by kernel_rfl) (by kernel_rfl) (fun _ _ _ h => h) (Or.inl ⟨by rfl, ?_⟩) (by assumption) ?_
            rotate_left
            · intro w hSw; (try dsimp only at hSw); go_simp; (try with_reducible rfl)
            try simp only [Act.put, List.setIfInBounds_toArray, List.set_cons_zero, List.set_cons_succ]
            refine wpAnyH_take (i := 6) (oi := ⟨some 21, _, _, _, _, _⟩) (v := ?_) rfl (by kernel_rfl) (by kernel_rfl) (by kernel_rfl) (fun _ _ _ h => h) (Or.inl ⟨by rfl, ?_⟩) (by assumption) ?_
            rotate_left
            · intro w hSw; (try dsimp only at hSw); go_simp; (try with_reducible rfl)
            try simp only [Act.put, List.setIfInBounds_toArray, List.set_cons_zero, List.set_cons_succ]
            refine wpAnyH_take (i := 7) (oi := ⟨some 22, _, _, _, _, _⟩) (v := ?_) rfl (by kernel_rfl) (by kernel_rfl) (by kernel_rfl) (fun _ _ _ h => h) (Or.inl ⟨by rfl, ?_⟩) (by assumption) ?_
            rotate_left
            · intro w hSw; have zc := (HX.out.keep hSw HX.out.lt).cell 1 rfl; (try dsimp only at hSw); go_simp; (try with_reducible rfl)
            try simp only [Act.put, List.setIfInBounds_toArray, List.set_cons_zero, List.set_cons_succ]
            refine wpAnyH_take (i := 8) (oi := ⟨some 23, _, _, _, _, _⟩) (v := ?_) rfl (by kernel_rfl) (by kernel_rfl) (by kernel_rfl) (fun _ _ _ h => h) (Or.inl ⟨by rfl, ?_⟩) (by assumption) ?_
            rotate_left
            · intro w hSw; (try dsimp only at hSw); go_simp; (try with_reducible rfl)
            try simp only [Act.put, List.setIfInBounds_toArray, List.set_cons_zero, List.set_cons_succ]
            refine wpAnyH_take (i := 9) (oi := ⟨some 24, _, _, _, _, _⟩) (v := ?_) rfl (by kernel_rfl) (by kernel_rfl) (by kernel_rfl) (fun _ _ _ h => h) (Or.inl ⟨by rfl, ?_⟩) (by assumption) ?_
            rotate_left
            · intro w hSw; (try dsimp only at hSw); go_simp; (try with_reducible rfl)
            try simp only [Act.put, List.setIfInBounds_toArray, List.set_cons_zero, List.set_cons_succ]
            refine wpAnyH_take (i := 10) (oi := ⟨some 25, _, _, _, _, _⟩) (v := ?_) rfl (by kernel_rfl) (by kernel_rfl) (by kernel_rfl) (fun _ _ _ h => h) (Or.inl ⟨by rfl, ?_⟩) (by assumption) ?_
            rotate_left
            · intro w hSw; (try dsimp only at hSw); go_simp; (try with_reducible rfl)
            try simp only [Act.put, List.setIfInBounds_toArray, List.set_cons_zero, List.set_cons_succ]
            refine wpAnyH_take (i := 11) (oi := ⟨some 26, _, _, _, _, _⟩) (v := (tpV f.there)) rfl (by kernel_rfl) (by kernel_rfl) (by kernel_rfl) (fun _ _ _ h => h) (yieldsIf_load_at (by rfl) 38 _ rfl (bd.add (k * 12)) rfl (tpL f.there) _ (fun Y h => fl_there (HF.out Y h)) Try.underlying38 rfl info_tp) (by assumption) ?_
            try simp only [Act.put, List.setIfInBounds_toArray, List.set_cons_zero, List.set_cons_succ]
            refine wpAnyH_take (i := 12) (oi := ⟨some 27, _, _, _, _, _⟩) (v := (tpV t)) rfl (by kernel_rfl) (by kernel_rfl) (by kernel_rfl) (fun _ _ _ h => h) (yieldsIf_load_at (by rfl) 38 _ rfl ⟨w.heap.size + 1, 0, none⟩ rfl (tpL t) _ (fun Y h => (HT.out.keep h HT.out.lt).at) Try.underlying38 rfl info_tp) (by assumption) ?_
            try simp only [Act.put, List.setIfInBounds_toArray, List.set_cons_zero, List.set_cons_succ]
            refine wpAnyH_take (i := 13) (oi := ⟨some 28, _, _, _, _, _⟩) (v := ?_) rfl (by kernel_rfl) (by kernel_rfl) (by kernel_rfl) (fun _ _ _ h => h) (Or.inl ⟨by rfl, ?_⟩) (by assumption) ?_
            rotate_left
            · intro w hSw; (try dsimp only at hSw); go_simp; (try with_reducible rfl)
            try simp only [Act.put, List.setIfInBounds_toArray, List.set_cons_zero, List.set_cons_succ]
            refine wpAnyH_take (i := 14) (oi := ⟨some 29, _, _, _, _, _⟩) (v := ?_) rfl (by kernel_rfl) (by kernel_rfl) (by kernel_rfl) (fun _ _ _ h => h) (Or.inl ⟨by rfl, ?_⟩) (by assumption) ?_
            rotate_left
            · intro w hSw; (try dsimp only at hSw); go_simp; (try with_reducible rfl)
            try simp only [Act.put, List.setIfInBounds_toArray, List.set_cons_zero, List.set_cons_succ]
            refine wpAnyH_take (i := 15) (oi := ⟨some 30, _, _, _, _, _⟩) (v := ?_) rfl (by kernel_rfl) (by kernel_rfl) (by kernel_rfl) (fun _ _ _ h => h) (Or.inl ⟨by rfl, ?_⟩) (by assumption) ?_
            rotate_left
            · intro w hSw; (try dsimp only at hSw); go_simp; (try with_reducible rfl)
            try simp only [Act.put, List.setIfInBounds_toArray, List.set_cons_zero, List.set_cons_succ]
            refine wpAnyH_take (i := 16) (oi := ⟨some 31, _, _, _, _, _⟩) (v := ?_) rfl (by kernel_rfl) (by kernel_rfl) (by kernel_rfl) (fun _ _ _ h => h) (Or.inl ⟨by rfl, ?_⟩) (by assumption) ?_
            rotate_left
            · intro w hSw; have zc := (HX.out.keep hSw HX.out.lt).cell 1 rfl; (try dsimp only at hSw); go_simp; (try with_reducible rfl)
            try simp only [Act.put, List.setIfInBounds_toArray, List.set_cons_zero, List.set_cons_succ]
            refine wpAnyH_take (i := 17) (oi := ⟨some 32, _, _, _, _, _⟩) (v := ?_) rfl (by kernel_rfl) (by kernel_rfl) (by kernel_rfl) (fun _ _ _ h => h) (Or.inl ⟨by rfl, ?_⟩) (by assumption) ?_
            rotate_left
            · intro w hSw; (try dsimp only at hSw); go_simp; (try with_reducible rfl)
            try simp only [Act.put, List.setIfInBounds_toArray, List.set_cons_zero, List.set_cons_succ]
            refine wpAnyH_take (i := 18) (oi := ⟨some 33, _, _, _, _, _⟩) (v := ?_) rfl (by kernel_rfl) (by kernel_rfl) (by kernel_rfl) (fun _ _ _ h => h) (Or.inl ⟨by rfl, ?_⟩) (by assumption) ?_
            rotate_left
            · intro w hSw; (try dsimp only at hSw); go_simp; (try with_reducible rfl)
            try simp only [Act.put, List.setIfInBounds_toArray, List.set_cons_zero, List.set_cons_succ]
            refine wpAnyH_take (i := 19) (oi := ⟨some 34, _, _, _, _, _⟩) (v := ?_) rfl (by kernel_rfl) (by kernel_rfl) (by kernel_rfl) (fun _ _ _ h => h) (Or.inl ⟨by rfl, ?_⟩) (by assumption) ?_
            rotate_left
            · intro w hSw; (try dsimp only at hSw); go_simp; (try with_reducible rfl)
            try simp only [Act.put, List.setIfInBounds_toArray, List.set_cons_zero, List.set_cons_succ]
            refine wpAnyH_take (i := 20) (oi := ⟨some 35, _, _, _, _, _⟩) (v := (tpV f.back)) rfl (by kernel_rfl) (by kernel_rfl) (by kernel_rfl) (fun _ _ _ h => h) (yieldsIf_load_at (by rfl) 38 _ rfl ((bd.add (k * 12)).add 5) rfl (tpL f.back) _ (fun Y h => fl_back (HF.out Y h)) Try.underlying38 rfl info_tp) (by assumption) ?_
            try simp only [Act.put, List.setIfInBounds_toArray, List.set_cons_zero, List.set_cons_succ]
            refine wpAnyH_take (i := 21) (oi := ⟨some 36, _, _, _, _, _⟩) (v := (tpV t)) rfl (by kernel_rfl) (by kernel_rfl) (by kernel_rfl) (fun _ _ _ h => h) (yieldsIf_load_at (by rfl) 38 _ rfl ⟨w.heap.size + 1, 0, none⟩ rfl (tpL t) _ (fun Y h => (HT.out.keep h HT.out.lt).at) Try.underlying38 rfl info_tp) (by assumption) ?_
            try simp only [Act.put, List.setIfInBounds_toArray, List.set_cons_zero, List.set_cons_succ]
            refine wpAnyH_take (i := 22) (oi := ⟨some 37, _, _, _, _, _⟩) (v := ?_) rfl (by kernel_rfl) (by kernel_rfl) (by kernel_rfl) (fun _ _ _ h => h) (Or.inl ⟨by rfl, ?_⟩) (by assumption) ?_
            rotate_left
            · intro w hSw; (try dsimp only at hSw); go_simp; (try with_reducible rfl)
            try simp only [Act.put, List.setIfInBounds_toArray, List.set_cons_zero, List.set_cons_succ]
            refine wpAnyH_take (i := 23) (oi := ⟨some 38, _, _, _, _, _⟩) (v := ?_) rfl (by kernel_rfl) (by kernel_rfl) (by kernel_rfl) (fun _ _ _ h => h) (Or.inl ⟨by rfl, ?_⟩) (by assumption) ?_
            rotate_left
            · intro w hSw; (try dsimp only at hSw); go_simp; (try with_reducible rfl)
            try simp only [Act.put, List.setIfInBounds_toArray, List.set_cons_zero, List.set_cons_succ]
            refine wpAnyH_take (i := 24) (oi := ⟨some 39, _, _, _, _, _⟩) (v := ?_) rfl (by kernel_rfl) (by kernel_rfl) (by kernel_rfl) (fun _ _ _ h => h) (Or.inl ⟨by rfl, ?_⟩) (by assumption) ?_
            rotate_left
            · intro w hSw; (try dsimp only at hSw); go_simp; (try with_reducible rfl)
            try simp only [Act.put, List.setIfInBounds_toArray, List.set_cons_zero, List.set_cons_succ]
            refine wpAnyH_done (by kernel_rfl) ?_ _
            have yq := hHeld
            clear hHeld
            go_upto_region 5 with fail
            generalize wo.drew = w5 at *
            have HX := Go.Lib.hid (HX.out.keep yq HX.out.lt)
            have HT := Go.Lib.hid (HT.out.keep yq HT.out.lt)
            have HF : Hid (∀ Y, Below w5.heap.size w5 Y → ∀ j v, (flL f)[j]? = some v → Y.cell? ((bd.add (k * 12)).add j) = some v) := Go.Lib.hid (fun Y h => HF.out Y (yq.trans (h.mono yq.size)))
            try simp only [Act.put, List.setIfInBounds_toArray, List.set_cons_zero, List.set_cons_succ]
            refine wp_region_held_drew (S := fun Y => Below w5.heap.size w5 Y) (by kernel_rfl) ?_ (fun hHeld => ?_)
            · exact below_drew (Below.refl _ _)
            refine wpAnyH_take (i := 0) (oi := ⟨some 40, _, _, _, _, _⟩) (v := ?_) rfl (by kernel_rfl) (by kernel_rfl) (by kernel_rfl) (fun _ _ _ h => h) (Or.inl ⟨by rfl, ?_⟩) (by assumption) ?_
            rotate_left
            · intro w hSw; (try dsimp only at hSw); go_simp; (try with_reducible rfl)
            try simp only [Act.put, List.setIfInBounds_toArray, List.set_cons_zero, List.set_cons_succ]
            refine wpAnyH_take (i := 1) (oi := ⟨some 41, _, _, _, _, _⟩) (v := ?_) rfl (by kernel_rfl) (by kernel_rfl) (by kernel_rfl) (fun _ _ _ h => h) (Or.inl ⟨by rfl, ?_⟩) (by assumption) ?_
            rotate_left
            · intro w hSw; (try dsimp only at hSw); go_simp; (try with_reducible rfl)
            try simp only [Act.put, List.setIfInBounds_toArray, List.set_cons_zero, List.set_cons_succ]
            refine wpAnyH_take (i := 2) (oi := ⟨some 42, _, _, _, _, _⟩) (v := ?_) rfl (by kernel_rfl) (by kernel_rfl) (by kernel_rfl) (fun _ _ _ h => h) (Or.inl ⟨by rfl, ?_⟩) (by assumption) ?_
            rotate_left
            · intro w hSw; have zc := (HX.out.keep hSw HX.out.lt).cell 1 rfl; (try dsimp only at hSw); go_simp; (try with_reducible rfl)
            try simp only [Act.put, List.setIfInBounds_toArray, List.set_cons_zero, List.set_cons_succ]
            refine wpAnyH_take (i := 3) (oi := ⟨some 43, _, _, _, _, _⟩) (v := ?_) rfl (by kernel_rfl) (by kernel_rfl) (by kernel_rfl) (fun _ _ _ h => h) (Or.inl ⟨by rfl, ?_⟩) (by assumption) ?_
            rotate_left
            · intro w hSw; (try dsimp only at hSw); go_simp; (try with_reducible rfl)
            try simp only [Act.put, List.setIfInBounds_toArray, List.set_cons_zero, List.set_cons_succ]
            refine wpAnyH_take (i := 4) (oi := ⟨some 44, _, _, _, _, _⟩) (v := ?_) rfl (by kernel_rfl) (by kernel_rfl) (by kernel_rfl) (fun _ _ _ h => h) (Or.inl ⟨by rfl, ?_⟩) (by assumption) ?_
            rotate_left
            · intro w hSw; (try dsimp only at hSw); go_simp; (try with_reducible rfl)
            try simp only [Act.put, List.setIfInBounds_toArray, List.set_cons_zero, List.set_cons_succ]
            refine wpAnyH_take (i := 5) (oi := ⟨some 45, _, _, _, _, _⟩) (v := ?_) rfl (by kernel_rfl) (by kernel_rfl) (by kernel_rfl) (fun _ _ _ h => h) (Or.inl ⟨by rfl, ?_⟩) (by assumption) ?_
            rotate_left
            · intro w hSw; (try dsimp only at hSw); go_simp; (try with_reducible rfl)
            try simp only [Act.put, List.setIfInBounds_toArray, List.set_cons_zero, List.set_cons_succ]
            refine wpAnyH_take (i := 6) (oi := ⟨some 46, _, _, _, _, _⟩) (v := (tpV f.there)) rfl (by kernel_rfl) (by kernel_rfl) (by kernel_rfl) (fun _ _ _ h => h) (yieldsIf_load_at (by rfl) 38 _ rfl (bd.add (k * 12)) rfl (tpL f.there) _ (fun Y h => fl_there (HF.out Y h)) Try.underlying38 rfl info_tp) (by assumption) ?_
            try simp only [Act.put, List.setIfInBounds_toArray, List.set_cons_zero, List.set_cons_succ]
            refine wpAnyH_take (i := 7) (oi := ⟨some 47, _, _, _, _, _⟩) (v := (tpV t)) rfl (by kernel_rfl) (by kernel_rfl) (by kernel_rfl) (fun _ _ _ h => h) (yieldsIf_load_at (by rfl) 38 _ rfl ⟨w.heap.size + 1, 0, none⟩ rfl (tpL t) _ (fun Y h => (HT.out.keep h HT.out.lt).at) Try.underlying38 rfl info_tp) (by assumption) ?_
            try simp only [Act.put, List.setIfInBounds_toArray, List.set_cons_zero, List.set_cons_succ]
            refine wpAnyH_take (i := 8) (oi := ⟨some 48, _, _, _, _, _⟩) (v := ?_) rfl (by kernel_rfl) (by kernel_rfl) (by kernel_rfl) (fun _ _ _ h => h) (Or.inl ⟨by rfl, ?_⟩) (by assumption) ?_
            rotate_left
            · intro w hSw; (try dsimp only at hSw); go_simp; (try with_reducible rfl)
            try simp only [Act.put, List.setIfInBounds_toArray, List.set_cons_zero, List.set_cons_succ]
            refine wpAnyH_take (i := 9) (oi := ⟨some 4, _, _, _, _, _⟩) (v := ?_) rfl (by kernel_rfl) (by kernel_rfl) (by kernel_rfl) (fun _ _ _ h => h) (Or.inl ⟨by rfl, ?_⟩) (by assumption) ?_
            rotate_left
            · intro w hSw; (try dsimp only at hSw); go_simp; (try with_reducible rfl)
            try simp only [Act.put, List.setIfInBounds_toArray, List.set_cons_zero, List.set_cons_succ]
            refine wpAnyH_take (i := 10) (oi := ⟨some 5, _, _, _, _, _⟩) (v := ?_) rfl (by kernel_rfl) (by kernel_rfl) (by kernel_rfl) (fun _ _ _ h => h) (Or.inl ⟨by rfl, ?_⟩) (by assumption) ?_
            rotate_left
            · intro w hSw; (try dsimp only at hSw); go_simp; (try with_reducible rfl)
            try simp only [Act.put, List.setIfInBounds_toArray, List.set_cons_zero, List.set_cons_succ]
            refine wpAnyH_take (i := 11) (oi := ⟨some 6, _, _, _, _, _⟩) (v := ?_) rfl (by kernel_rfl) (by kernel_rfl) (by kernel_rfl) (fun _ _ _ h => h) (Or.inl ⟨by rfl, ?_⟩) (by assumption) ?_
            rotate_left
            · intro w hSw; (try dsimp only at hSw); go_simp; (try with_reducible rfl)
            try simp only [Act.put, List.setIfInBounds_toArray, List.set_cons_zero, List.set_cons_succ]
            refine wpAnyH_done (by kernel_rfl) ?_ _
            have yr := hHeld
            clear hHeld
            go_wp2
            go_ret3
            exact ⟨rfl, y0.trans ((HB.out.trans ((yq.trans (yr.mono yq.size)).mono HB.out.size)).mono y0.size)⟩
        · have hr : q = ((k : Int), false, true) := by
            rw [← HQ.out, findS_is HS.out (by unfold hasT; rw [e1]; rfl) HN.out, e1]; rfl
          subst hr
          have ea := fun W => (eqTp f.there t W).trans (by rw [e1])
          have en : ∀ W, (binOp .neq 38 (tpV f.there) (tpV t)).run Try.prog W = .ok (.bool false) W := fun W => (neTp f.there t W).trans (by rw [e1]; rfl)
          go_upto_region 4 with fail
          try simp only [Act.put, List.setIfInBounds_toArray, List.set_cons_zero, List.set_cons_succ]
          refine wp_region_held_drew (S := fun Y => Below wo.heap.size wo Y) (by kernel_rfl) ?_ (fun hHeld => ?_)
          · exact below_drew (Below.refl _ _)
          refine wpAnyH_take (i := 0) (oi := ⟨some 15, _, _, _, _, _⟩) (v := ?_) rfl (by kernel_rfl) (by kernel_rfl) (by kernel_rfl) (fun _ _ _ h => h) (Or.inl ⟨by rfl, ?_⟩) (by assumption) ?_
          rotate_left
          · intro w hSw; (try dsimp only at hSw); go_simp; (try with_reducible rfl)
          try simp only [Act.put, List.setIfInBounds_toArray, List.set_cons_zero, List.set_cons_succ]
          refine wpAnyH_take (i := 1) (oi := ⟨some 16, _, _, _, _, _⟩) (v := ?_) rfl (by kernel_rfl) (by kernel_rfl) (by kernel_rfl) (fun _ _ _ h => h) (Or.inl ⟨by rfl, ?_⟩) (by assumption) ?_
          rotate_left
          · intro w hSw; have zc := (HX.out.keep hSw HX.out.lt).cell 0 rfl; (try dsimp only at hSw); go_simp; (try with_reducible rfl)
          try simp only [Act.put, List.setIfInBounds_toArray, List.set_cons_zero, List.set_cons_succ]
          refine wpAnyH_take (i := 2) (oi := ⟨some 17, _, _, _, _, _⟩) (v := ?_) rfl (by kernel_rfl) (by kernel_rfl) (by kernel_rfl) (fun _ _ _ h => h) (Or.inl ⟨by rfl, ?_⟩) (by assumption) ?_
          rotate_left
          · intro w hSw; (try dsimp only at hSw); go_simp; (try with_reducible rfl)
          try simp only [Act.put, List.setIfInBounds_toArray, List.set_cons_zero, List.set_cons_succ]
          refine wpAnyH_take (i := 3) (oi := ⟨some 18, _, _, _, _, _⟩) (v := ?_) rfl (by kernel_rfl) (by kernel_rfl) (by kernel_rfl) (fun _ _ _ h => h) (Or.inl ⟨by rfl, ?_⟩) (by assumption) ?_
          rotate_left
          · intro w hSw; (try dsimp only at hSw); go_simp; (try with_reducible rfl)
          try simp only [Act.put, List.setIfInBounds_toArray, List.set_cons_zero, List.set_cons_succ]
          refine wpAnyH_take (i := 4) (oi := ⟨some 19, _, _, _, _, _⟩) (v := ?_) rfl (by kernel_rfl) (by kernel_rfl) (by kernel_rfl) (fun _ _ _ h => h) (Or.inl ⟨by rfl, ?_⟩) (by assumption) ?_
          rotate_left
          · intro w hSw; have zu := HU.out _ hSw; (try dsimp only at hSw); go_simp; (try with_reducible rfl)
          try simp only [Act.put, List.setIfInBounds_toArray, List.set_cons_zero, List.set_cons_succ]
          refine wpAnyH_take (i := 5) (oi := ⟨some 20, _, _, _, _, _⟩) (v := ?_) rfl (by kernel_rfl) (by kernel_rfl) (by kernel_rfl) (fun _ _ _ h => h) (Or.inl ⟨by rfl, ?_⟩) (by assumption) ?_
          rotate_left
          · intro w hSw; (try dsimp only at hSw); go_simp; (try with_reducible rfl)
          try simp only [Act.put, List.setIfInBounds_toArray, List.set_cons_zero, List.set_cons_succ]
          refine wpAnyH_take (i := 6) (oi := ⟨some 21, _, _, _, _, _⟩) (v := ?_) rfl (by kernel_rfl) (by kernel_rfl) (by kernel_rfl) (fun _ _ _ h => h) (Or.inl ⟨by rfl, ?_⟩) (by assumption) ?_
          rotate_left
          · intro w hSw; (try dsimp only at hSw); go_simp; (try with_reducible rfl)
          try simp only [Act.put, List.setIfInBounds_toArray, List.set_cons_zero, List.set_cons_succ]
          refine wpAnyH_take (i := 7) (oi := ⟨some 22, _, _, _, _, _⟩) (v := ?_) rfl (by kernel_rfl) (by kernel_rfl) (by kernel_rfl) (fun _ _ _ h => h) (Or.inl ⟨by rfl, ?_⟩) (by assumption) ?_
          rotate_left
          · intro w hSw; have zc := (HX.out.keep hSw HX.out.lt).cell 1 rfl; (try dsimp only at hSw); go_simp; (try with_reducible rfl)
          try simp only [Act.put, List.setIfInBounds_toArray, List.set_cons_zero, List.set_cons_succ]
          refine wpAnyH_take (i := 8) (oi := ⟨some 23, _, _, _, _, _⟩) (v := ?_) rfl (by kernel_rfl) (by kernel_rfl) (by kernel_rfl) (fun _ _ _ h => h) (Or.inl ⟨by rfl, ?_⟩) (by assumption) ?_
          rotate_left
          · intro w hSw; (try dsimp only at hSw); go_simp; (try with_reducible rfl)
          try simp only [Act.put, List.setIfInBounds_toArray, List.set_cons_zero, List.set_cons_succ]
          refine wpAnyH_take (i := 9) (oi := ⟨some 24, _, _, _, _, _⟩) (v := ?_) rfl (by kernel_rfl) (by kernel_rfl) (by kernel_rfl) (fun _ _ _ h => h) (Or.inl ⟨by rfl, ?_⟩) (by assumption) ?_
          rotate_left
          · intro w hSw; (try dsimp only at hSw); go_simp; (try with_reducible rfl)
          try simp only [Act.put, List.setIfInBounds_toArray, List.set_cons_zero, List.set_cons_succ]
          refine wpAnyH_take (i := 10) (oi := ⟨some 25, _, _, _, _, _⟩) (v := ?_) rfl (by kernel_rfl) (by kernel_rfl) (by kernel_rfl) (fun _ _ _ h => h) (Or.inl ⟨by rfl, ?_⟩) (by assumption) ?_
          rotate_left
          · intro w hSw; (try dsimp only at hSw); go_simp; (try with_reducible rfl)
          try simp only [Act.put, List.setIfInBounds_toArray, List.set_cons_zero, List.set_cons_succ]
          refine wpAnyH_take (i := 11) (oi := ⟨some 26, _, _, _, _, _⟩) (v := (tpV f.there)) rfl (by kernel_rfl) (by kernel_rfl) (by kernel_rfl) (fun _ _ _ h => h) (yieldsIf_load_at (by rfl) 38 _ rfl (bd.add (k * 12)) rfl (tpL f.there) _ (fun Y h => fl_there (HF.out Y h)) Try.underlying38 rfl info_tp) (by assumption) ?_
          try simp only [Act.put, List.setIfInBounds_toArray, List.set_cons_zero, List.set_cons_succ]
          refine wpAnyH_take (i := 12) (oi := ⟨some 27, _, _, _, _, _⟩) (v := (tpV t)) rfl (by kernel_rfl) (by kernel_rfl) (by kernel_rfl) (fun _ _ _ h => h) (yieldsIf_load_at (by rfl) 38 _ rfl ⟨w.heap.size + 1, 0, none⟩ rfl (tpL t) _ (fun Y h => (HT.out.keep h HT.out.lt).at) Try.underlying38 rfl info_tp) (by assumption) ?_
          try simp only [Act.put, List.setIfInBounds_toArray, List.set_cons_zero, List.set_cons_succ]
          refine wpAnyH_take (i := 13) (oi := ⟨some 28, _, _, _, _, _⟩) (v := ?_) rfl (by kernel_rfl) (by kernel_rfl) (by kernel_rfl) (fun _ _ _ h => h) (Or.inl ⟨by rfl, ?_⟩) (by assumption) ?_
          rotate_left
          · intro w hSw; (try dsimp only at hSw); go_simp; (try with_reducible rfl)
          try simp only [Act.put, List.setIfInBounds_toArray, List.set_cons_zero, List.set_cons_succ]
          refine wpAnyH_take (i := 14) (oi := ⟨some 29, _, _, _, _, _⟩) (v := ?_) rfl (by kernel_rfl) (by kernel_rfl) (by kernel_rfl) (fun _ _ _ h => h) (Or.inl ⟨by rfl, ?_⟩) (by assumption) ?_
          rotate_left
          · intro w hSw; (try dsimp only at hSw); go_simp; (try with_reducible rfl)
          try simp only [Act.put, List.setIfInBounds_toArray, List.set_cons_zero, List.set_cons_succ]
          refine wpAnyH_take (i := 15) (oi := ⟨some 30, _, _, _, _, _⟩) (v := undef) rfl (by kernel_rfl) (by kernel_rfl) (by kernel_rfl) (fun _ _ _ h => h) (Or.inr ⟨by rfl, rfl⟩) (by assumption) ?_
          try simp only [Act.put, List.setIfInBounds_toArray, List.set_cons_zero, List.set_cons_succ]
          refine wpAnyH_take (i := 16) (oi := ⟨some 31, _, _, _, _, _⟩) (v := undef) rfl (by kernel_rfl) (by kernel_rfl) (by kernel_rfl) (fun _ _ _ h => h) (Or.inr ⟨by rfl, rfl⟩) (by assumption) ?_
          try simp only [Act.put, List.setIfInBounds_toArray, List.set_cons_zero, List.set_cons_succ]
          refine wpAnyH_take (i := 17) (oi := ⟨some 32, _, _, _, _, _⟩) (v := undef) rfl (by kernel_rfl) (by kernel_rfl) (by kernel_rfl) (fun _ _ _ h => h) (Or.inr ⟨by rfl, rfl⟩) (by assumption) ?_
          try simp only [Act.put, List.setIfInBounds_toArray, List.set_cons_zero, List.set_cons_succ]
          refine wpAnyH_take (i := 18) (oi := ⟨some 33, _, _, _, _, _⟩) (v := undef) rfl (by kernel_rfl) (by kernel_rfl) (by kernel_rfl) (fun _ _ _ h => h) (Or.inr ⟨by rfl, rfl⟩) (by assumption) ?_
          try simp only [Act.put, List.setIfInBounds_toArray, List.set_cons_zero, List.set_cons_succ]
          refine wpAnyH_take (i := 19) (oi := ⟨some 34, _, _, _, _, _⟩) (v := undef) rfl (by kernel_rfl) (by kernel_rfl) (by kernel_rfl) (fun _ _ _ h => h) (Or.inr ⟨by rfl, rfl⟩) (by assumption) ?_
          try simp only [Act.put, List.setIfInBounds_toArray, List.set_cons_zero, List.set_cons_succ]
          refine wpAnyH_take (i := 20) (oi := ⟨some 35, _, _, _, _, _⟩) (v := undef) rfl (by kernel_rfl) (by kernel_rfl) (by kernel_rfl) (fun _ _ _ h => h) (Or.inr ⟨by rfl, rfl⟩) (by assumption) ?_
          try simp only [Act.put, List.setIfInBounds_toArray, List.set_cons_zero, List.set_cons_succ]
          refine wpAnyH_take (i := 21) (oi := ⟨some 36, _, _, _, _, _⟩) (v := undef) rfl (by kernel_rfl) (by kernel_rfl) (by kernel_rfl) (fun _ _ _ h => h) (Or.inr ⟨by rfl, rfl⟩) (by assumption) ?_
          try simp only [Act.put, List.setIfInBounds_toArray, List.set_cons_zero, List.set_cons_succ]
          refine wpAnyH_take (i := 22) (oi := ⟨some 37, _, _, _, _, _⟩) (v := undef) rfl (by kernel_rfl) (by kernel_rfl) (by kernel_rfl) (fun _ _ _ h => h) (Or.inr ⟨by rfl, rfl⟩) (by assumption) ?_
          try simp only [Act.put, List.setIfInBounds_toArray, List.set_cons_zero, List.set_cons_succ]
          refine wpAnyH_take (i := 23) (oi := ⟨some 38, _, _, _, _, _⟩) (v := ?_) rfl (by kernel_rfl) (by kernel_rfl) (by kernel_rfl) (fun _ _ _ h => h) (Or.inl ⟨by rfl, ?_⟩) (by assumption) ?_
          rotate_left
          · intro w hSw; (try dsimp only at hSw); go_simp; (try with_reducible rfl)
          try simp only [Act.put, List.setIfInBounds_toArray, List.set_cons_zero, List.set_cons_succ]
          refine wpAnyH_take (i := 24) (oi := ⟨some 39, _, _, _, _, _⟩) (v := ?_) rfl (by kernel_rfl) (by kernel_rfl) (by kernel_rfl) (fun _ _ _ h => h) (Or.inl ⟨by rfl, ?_⟩) (by assumption) ?_
          rotate_left
          · intro w hSw; (try dsimp only at hSw); go_simp; (try with_reducible rfl)
          try simp only [Act.put, List.setIfInBounds_toArray, List.set_cons_zero, List.set_cons_succ]
          refine wpAnyH_done (by kernel_rfl) ?_ _
          have yq := hHeld
          clear hHeld
          go_upto_region 5 with fail
          generalize wo.drew = w5 at *
          have HX := Go.Lib.hid (HX.out.keep yq HX.out.lt)
          have HT := Go.Lib.hid (HT.out.keep yq HT.out.lt)
          have HF : Hid (∀ Y, Below w5.heap.size w5 Y → ∀ j v, (flL f)[j]? = some v → Y.cell? ((bd.add (k * 12)).add j) = some v) := Go.Lib.hid (fun Y h => HF.out Y (yq.trans (h.mono yq.size)))
          try simp only [Act.put, List.setIfInBounds_toArray, List.set_cons_zero, List.set_cons_succ]
          refine wp_region_held_drew (S := fun Y => Below w5.heap.size w5 Y) (by kernel_rfl) ?_ (fun hHeld => ?_)
          · exact below_drew (Below.refl _ _)
          refine wpAnyH_take (i := 0) (oi := ⟨some 40, _, _, _, _, _⟩) (v := ?_) rfl (by kernel_rfl) (by kernel_rfl) (by kernel_rfl) (fun _ _ _ h => h) (Or.inl ⟨by rfl, ?_⟩) (by assumption) ?_
          rotate_left
          · intro w hSw; (try dsimp only at hSw); go_simp; (try with_reducible rfl)
          try simp only [Act.put, List.setIfInBounds_toArray, List.set_cons_zero, List.set_cons_succ]
          refine wpAnyH_take (i := 1) (oi := ⟨some 41, _, _, _, _, _⟩) (v := ?_) rfl (by kernel_rfl) (by kernel_rfl) (by kernel_rfl) (fun _ _ _ h => h) (Or.inl ⟨by rfl, ?_⟩) (by assumption) ?_
          rotate_left
          · intro w hSw; (try dsimp only at hSw); go_simp; (try with_reducible rfl)
          try simp only [Act.put, List.setIfInBounds_toArray, List.set_cons_zero, List.set_cons_succ]
          refine wpAnyH_take (i := 2) (oi := ⟨some 42, _, _, _, _, _⟩) (v := ?_) rfl (by kernel_rfl) (by kernel_rfl) (by kernel_rfl) (fun _ _ _ h => h) (Or.inl ⟨by rfl, ?_⟩) (by assumption) ?_
          rotate_left
          · intro w hSw; have zc := (HX.out.keep hSw HX.out.lt).cell 1 rfl; (try dsimp only at hSw); go_simp; (try with_reducible rfl)
          try simp only [Act.put, List.setIfInBounds_toArray, List.set_cons_zero, List.set_cons_succ]
          refine wpAnyH_take (i := 3) (oi := ⟨some 43, _, _, _, _, _⟩) (v := ?_) rfl (by kernel_rfl) (by kernel_rfl) (by kernel_rfl) (fun _ _ _ h => h) (Or.inl ⟨by rfl, ?_⟩) (by assumption) ?_
          rotate_left
          · intro w hSw; (try dsimp only at hSw); go_simp; (try with_reducible rfl)
          try simp only [Act.put, List.setIfInBounds_toArray, List.set_cons_zero, List.set_cons_succ]
          refine wpAnyH_take (i := 4) (oi := ⟨some 44, _, _, _, _, _⟩) (v := ?_) rfl (by kernel_rfl) (by kernel_rfl) (by kernel_rfl) (fun _ _ _ h => h) (Or.inl ⟨by rfl, ?_⟩) (by assumption) ?_
          rotate_left
          · intro w hSw; (try dsimp only at hSw); go_simp; (try with_reducible rfl)
          try simp only [Act.put, List.setIfInBounds_toArray, List.set_cons_zero, List.set_cons_succ]
          refine wpAnyH_take (i := 5) (oi := ⟨some 45, _, _, _, _, _⟩) (v := ?_) rfl (by kernel_rfl) (by kernel_rfl) (by kernel_rfl) (fun _ _ _ h => h) (Or.inl ⟨by rfl, ?_⟩) (by assumption) ?_
          rotate_left
          · intro w hSw; (try dsimp only at hSw); go_simp; (try with_reducible rfl)
          try simp only [Act.put, List.setIfInBounds_toArray, List.set_cons_zero, List.set_cons_succ]
          refine wpAnyH_take (i := 6) (oi := ⟨some 46, _, _, _, _, _⟩) (v := (tpV f.there)) rfl (by kernel_rfl) (by kernel_rfl) (by kernel_rfl) (fun _ _ _ h => h) (yieldsIf_load_at (by rfl) 38 _ rfl (bd.add (k * 12)) rfl (tpL f.there) _ (fun Y h => fl_there (HF.out Y h)) Try.underlying38 rfl info_tp) (by assumption) ?_
          try simp only [Act.put, List.setIfInBounds_toArray, List.set_cons_zero, List.set_cons_succ]
          refine wpAnyH_take (i := 7) (oi := ⟨some 47, _, _, _, _, _⟩) (v := (tpV t)) rfl (by kernel_rfl) (by kernel_rfl) (by kernel_rfl) (fun _ _ _ h => h) (yieldsIf_load_at (by rfl) 38 _ rfl ⟨w.heap.size + 1, 0, none⟩ rfl (tpL t) _ (fun Y h => (HT.out.keep h HT.out.lt).at) Try.underlying38 rfl info_tp) (by assumption) ?_
          try simp only [Act.put, List.setIfInBounds_toArray, List.set_cons_zero, List.set_cons_succ]
          refine wpAnyH_take (i := 8) (oi := ⟨some 48, _, _, _, _, _⟩) (v := ?_) rfl (by kernel_rfl) (by kernel_rfl) (by kernel_rfl) (fun _ _ _ h => h) (Or.inl ⟨by rfl, ?_⟩) (by assumption) ?_
          rotate_left
          · intro w hSw; (try dsimp only at hSw); go_simp; (try with_reducible rfl)
          try simp only [Act.put, List.setIfInBounds_toArray, List.set_cons_zero, List.set_cons_succ]
          refine wpAnyH_take (i := 9) (oi := ⟨some 4, _, _, _, _, _⟩) (v := ?_) rfl (by kernel_rfl) (by kernel_rfl) (by kernel_rfl) (fun _ _ _ h => h) (Or.inl ⟨by rfl, ?_⟩) (by assumption) ?_
          rotate_left
          · intro w hSw; (try dsimp only at hSw); go_simp; (try with_reducible rfl)
          try simp only [Act.put, List.setIfInBounds_toArray, List.set_cons_zero, List.set_cons_succ]
          refine wpAnyH_take (i := 10) (oi := ⟨some 5, _, _, _, _, _⟩) (v := ?_) rfl (by kernel_rfl) (by kernel_rfl) (by kernel_rfl) (fun _ _ _ h => h) (Or.inl ⟨by rfl, ?_⟩) (by assumption) ?_
          rotate_left
          · intro w hSw; (try dsimp only at hSw); go_simp; (try with_reducible rfl)
          try simp only [Act.put, List.setIfInBounds_toArray, List.set_cons_zero, List.set_cons_succ]
          refine wpAnyH_take (i := 11) (oi := ⟨some 6, _, _, _, _, _⟩) (v := ?_) rfl (by kernel_rfl) (by kernel_rfl) (by kernel_rfl) (fun _ _ _ h => h) (Or.inl ⟨by rfl, ?_⟩) (by assumption) ?_
          rotate_left
          · intro w hSw; (try dsimp only at hSw); go_simp; (try with_reducible rfl)
          try simp only [Act.put, List.setIfInBounds_toArray, List.set_cons_zero, List.set_cons_succ]
          refine wpAnyH_done (by kernel_rfl) ?_ _
          have yr := hHeld
          clear hHeld
          go_wp2
          go_ret3
          exact ⟨rfl, y0.trans ((HB.out.trans ((yq.trans (yr.mono yq.size)).mono HB.out.size)).mono y0.size)⟩
    · obtain rfl : k = x.slots.length := by omega
      have t1 : ¬ (x.slots.length : Int) < (x.slots.length : Int) := by omega
      have hr : q = (0, false, false) := by rw [← HQ.out]; exact findS_not HN.out
      subst hr
      go_wp2_with fail
      go_ret3
      exact ⟨rfl, yo⟩
end Go.Proofs.Ytofpalmghdapkaa
