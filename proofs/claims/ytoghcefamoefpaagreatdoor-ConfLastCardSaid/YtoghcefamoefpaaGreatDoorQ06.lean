/- Lemmas, several texts in one. -/
import Derived.Test.YtoghcefamoefpaaGreatDoorQ05
import Derived.Test.YtoghcefamoefpaaGreatDoorQ01
import Derived.Lib.FieldsP
import Derived.Lib.DecodeN
import Derived.Test.YtoghcefamoefpaaGreatDoorQ03
/- The landed conf: the line rule. -/
namespace Go.Proofs.YtoghcefamoefpaaGreatDoor
open Go.ChangeShapes Go.WideShapes Go.ChangeAt Go.RowKit
set_option linter.unusedVariables false
set_option linter.unusedSimpArgs false

set_option maxRecDepth 100000 in
set_option maxHeartbeats 4000000 in
theorem crule15 : ReaderS 53 ruleP := by
  intro B gd c p gw l w hsz hd hw hB hn
  have hlt := hd.lt
  have hne : gd ≠ gw := by omega
  obtain ⟨q0, hq0⟩ : ∃ q, numP (hdT (l)) = q := ⟨_, rfl⟩
  obtain ⟨q1, hq1⟩ : ∃ q, numP (hdT (l.tail)) = q := ⟨_, rfl⟩
  obtain ⟨q2, hq2⟩ : ∃ q, numP (hdT (l.tail.tail)) = q := ⟨_, rfl⟩
  obtain ⟨q3, hq3⟩ : ∃ q, ctA (l.tail.tail.tail) = q := ⟨_, rfl⟩
  obtain ⟨q4, hq4⟩ : ∃ q, ctB (l.tail.tail.tail) = q := ⟨_, rfl⟩
  have hr3 : 0 ≤ q3.getD 0 ∧ q3.getD 0 ≤ 4294967295 := by
    cases hx : q3 with
    | none => decide
    | some v => rw [hx] at hq3; exact addrP_rng hq3
  obtain ⟨q5, hq5⟩ : ∃ q, ctA (l.tail.tail.tail.tail) = q := ⟨_, rfl⟩
  obtain ⟨q6, hq6⟩ : ∃ q, ctB (l.tail.tail.tail.tail) = q := ⟨_, rfl⟩
  have hr5 : 0 ≤ q5.getD 0 ∧ q5.getD 0 ≤ 4294967295 := by
    cases hx : q5 with
    | none => decide
    | some v => rw [hx] at hq5; exact addrP_rng hq5
  obtain ⟨q7, hq7⟩ : ∃ q, numP (hdT (l.tail.tail.tail.tail.tail)) = q := ⟨_, rfl⟩
  obtain ⟨q8, hq8⟩ : ∃ q, numP (hdT (l.tail.tail.tail.tail.tail.tail)) = q := ⟨_, rfl⟩
  obtain ⟨q9, hq9⟩ : ∃ q, actP (hdT (l.tail.tail.tail.tail.tail.tail.tail)) = q := ⟨_, rfl⟩
  have k0 := fun w h => cnumber15 (B := B) gw (l) (false) w h q0 hq0
  have k1 := fun w h => cnumber15 (B := B) gw (l.tail) ((false) || !q0.isSome) w h q1 hq1
  have k2 := fun w h => cnumber15 (B := B) gw (l.tail.tail) (((false) || !q0.isSome) || !q1.isSome) w h q2 hq2
  have k3 := fun w h => cnet15 (B := B) gw (l.tail.tail.tail) ((((false) || !q0.isSome) || !q1.isSome) || !q2.isSome) w h q3 q4 hq3 hq4
  have k4 := fun w h => cnet15 (B := B) gw (l.tail.tail.tail.tail) ((((((false) || !q0.isSome) || !q1.isSome) || !q2.isSome) || !q3.isSome) || !q4.isSome) w h q5 q6 hq5 hq6
  have k5 := fun w h => cnumber15 (B := B) gw (l.tail.tail.tail.tail.tail) ((((((((false) || !q0.isSome) || !q1.isSome) || !q2.isSome) || !q3.isSome) || !q4.isSome) || !q5.isSome) || !q6.isSome) w h q7 hq7
  have k6 := fun w h => cnumber15 (B := B) gw (l.tail.tail.tail.tail.tail.tail) (((((((((false) || !q0.isSome) || !q1.isSome) || !q2.isSome) || !q3.isSome) || !q4.isSome) || !q5.isSome) || !q6.isSome) || !q7.isSome) w h q8 hq8
  have k7 := fun w h => caction15 (B := B) gw (l.tail.tail.tail.tail.tail.tail.tail) ((((((((((false) || !q0.isSome) || !q1.isSome) || !q2.isSome) || !q3.isSome) || !q4.isSome) || !q5.isSome) || !q6.isSome) || !q7.isSome) || !q8.isSome) w h q9 hq9
  have hP : ruleP c (l.map txB) = okB ((((((((((((false) || !q0.isSome) || !q1.isSome) || !q2.isSome) || !q3.isSome) || !q4.isSome) || !q5.isSome) || !q6.isSome) || !q7.isSome) || !q8.isSome) || !q9.isSome) || !(l.tail.tail.tail.tail.tail.tail.tail.tail).isEmpty) { c with rules := c.rules ++ [⟨q0.getD 0, q1.getD 0, q2.getD 0, q3.getD 0, q5.getD 0, q4.getD 0, q6.getD 0, q7.getD 0, q8.getD 0, q9.getD 0⟩] } := by
    rw [rule_seq c _ _ _ _ _ _ _ _ _ rfl rfl rfl rfl rfl rfl rfl rfl]
    simp only [map_tail, nQ, aQ, cA, cB, tQ, map_hd, map_emp, hq0, hq1, hq2, hq3, hq4, hq5, hq6, hq7, hq8, hq9]
  generalize q0.getD 0 = n0 at *
  generalize q0.isSome = b0 at *
  generalize q1.getD 0 = n1 at *
  generalize q1.isSome = b1 at *
  generalize q2.getD 0 = n2 at *
  generalize q2.isSome = b2 at *
  generalize q3.getD 0 = n3 at *
  generalize q3.isSome = b3 at *
  generalize q4.getD 0 = n4 at *
  generalize q4.isSome = b4 at *
  generalize q5.getD 0 = n5 at *
  generalize q5.isSome = b5 at *
  generalize q6.getD 0 = n6 at *
  generalize q6.isSome = b6 at *
  generalize q7.getD 0 = n7 at *
  generalize q7.isSome = b7 at *
  generalize q8.getD 0 = n8 at *
  generalize q8.isSome = b8 at *
  generalize q9.getD 0 = n9 at *
  generalize q9.isSome = b9 at *
  have K0 := Go.Lib.hid k0
  have tok0 : True := trivial
  have K1 := Go.Lib.hid k1
  have tok1 : True := trivial
  have K2 := Go.Lib.hid k2
  have tok2 : True := trivial
  have K3 := Go.Lib.hid k3
  have tok3 : True := trivial
  have K4 := Go.Lib.hid k4
  have tok4 : True := trivial
  have K5 := Go.Lib.hid k5
  have tok5 : True := trivial
  have K6 := Go.Lib.hid k6
  have tok6 : True := trivial
  have K7 := Go.Lib.hid k7
  have tok7 : True := trivial
  have tos0 : True := trivial
  have tos1 : True := trivial
  have tos2 : True := trivial
  have tos3 : True := trivial
  have tos4 : True := trivial
  have tos5 : True := trivial
  have tos6 : True := trivial
  have tos7 : True := trivial
  have tos8 : True := trivial
  have tos9 : True := trivial
  have HP := Go.Lib.hid hP
  have hgw := (show gw < w.heap.size from by obtain ⟨A, k, h1, _, _⟩ := hw.is; exact h1.lt)
  have hnr := hd.norow (Nat.le_refl w.heap.size)
  have yz : Below w.heap.size w (w.alloc (.cells #[.int .i64 0, .int .i64 0, .int .i64 0, .int .u32 0, .int .u32 0, .int .i64 0, .int .i64 0, .int .i64 0, .int .i64 0, .int .i64 0] 54)) := (Below.refl _ _).alloc (Nat.le_refl _) _
  have D0 := Go.Lib.hid (hd.at yz)
  have W0 := Go.Lib.hid (hw.at yz)
  have HNR := Go.Lib.hid hn
  have HNZ := Go.Lib.hid hnr
  have H7 := Go.Lib.hid hd.out
  have X0 := Go.Lib.hid (Bxo.made w 54 [.int .i64 0, .int .i64 0, .int .i64 0, .int .u32 0, .int .u32 0, .int .i64 0, .int .i64 0, .int .i64 0, .int .i64 0, .int .i64 0])
  have hBz : B ≤ w.heap.size := hd.hs
  have G0 : Hid (Dg B gd w (w.alloc (.cells #[.int .i64 0, .int .i64 0, .int .i64 0, .int .u32 0, .int .u32 0, .int .i64 0, .int .i64 0, .int .i64 0, .int .i64 0, .int .i64 0] 54))) := Go.Lib.hid (Dg.ofBelow yz hBz)
  have HSZ := Go.Lib.hid hsz
  have HTB := Go.Lib.hid hw.tb
  clear k0 k1 k2 k3 k4 k5 k6 k7 hP hd hw hn hnr hsz yz hq0 hq1 hq2 hq3 hq4 hq5 hq6 hq7 hq8 hq9
  go_enter Tryz.func53, Tryz.ntmps53
  go_upto_region 1 with fail
  generalize w.alloc (.cells #[.int .i64 0, .int .i64 0, .int .i64 0, .int .u32 0, .int .u32 0, .int .i64 0, .int .i64 0, .int .i64 0, .int .i64 0, .int .i64 0] 54) = w0 at *
  obtain ⟨gr, hgr⟩ : ∃ g, w.heap.size = g := ⟨_, rfl⟩
  rw [hgr] at hgw HNZ X0 hBz ⊢
  have hne2 : gd ≠ gr := by omega
  have hne3 : gr ≠ gw := by omega
  go_upto_region 9 with (first
    | (clear tok0; go_at_call 69; refine (K0.out w0 W0.out).mono ?_; rintro e wa0 ⟨rfl, ha, ga⟩; have W1 := Go.Lib.hid ha; have D1 := Go.Lib.hid (D0.out.gro ga hne HNR.out); have X1 := Go.Lib.hid (X0.out.gro ga hne3); have G1 : Hid (Dg B gd w wa0) := Go.Lib.hid (G0.out.trans (Dg.ofGro ga hB D0.out.hs W0.out.isc)); clear ha ga W0 X0; dsimp only)
    | (clear tos0; refine wpList_store_any rfl 3 _ _ rfl gr 0 54 _ [.int .i64 n0] _ rfl rfl rfl X1.out info_i1 (by show 0 + 1 ≤ 10; omega) (by intro u hu; rw [List.mem_singleton.1 hu]; rfl) ?_; intro wb0 hb ho; have X2 : Hid (Bxo wb0 gr 54 [.int .i64 n0, .int .i64 0, .int .i64 0, .int .u32 0, .int .u32 0, .int .i64 0, .int .i64 0, .int .i64 0, .int .i64 0, .int .i64 0]) := Go.Lib.hid hb; have D2 := Go.Lib.hid (D1.out.gro ho.gro hne2 HNZ.out); have W2 := Go.Lib.hid (W1.out.newer ho hgw); have G2 : Hid (Dg B gd w wb0) := Go.Lib.hid (G1.out.trans (Dg.ofGro ho.gro hBz D1.out.hs ⟨_, _, X1.out⟩)); clear hb ho X1 W1)
    | (clear tok1; go_at_call 69; refine (K1.out wb0 W2.out).mono ?_; rintro e wa1 ⟨rfl, ha, ga⟩; have W3 := Go.Lib.hid ha; have D3 := Go.Lib.hid (D2.out.gro ga hne HNR.out); have X3 := Go.Lib.hid (X2.out.gro ga hne3); have G3 : Hid (Dg B gd w wa1) := Go.Lib.hid (G2.out.trans (Dg.ofGro ga hB D2.out.hs W2.out.isc)); clear ha ga W2 X2; dsimp only)
    | (clear tos1; refine wpList_store_any rfl 3 _ _ rfl gr 1 54 _ [.int .i64 n1] _ rfl rfl rfl X3.out info_i1 (by show 1 + 1 ≤ 10; omega) (by intro u hu; rw [List.mem_singleton.1 hu]; rfl) ?_; intro wb1 hb ho; have X4 : Hid (Bxo wb1 gr 54 [.int .i64 n0, .int .i64 n1, .int .i64 0, .int .u32 0, .int .u32 0, .int .i64 0, .int .i64 0, .int .i64 0, .int .i64 0, .int .i64 0]) := Go.Lib.hid hb; have D4 := Go.Lib.hid (D3.out.gro ho.gro hne2 HNZ.out); have W4 := Go.Lib.hid (W3.out.newer ho hgw); have G4 : Hid (Dg B gd w wb1) := Go.Lib.hid (G3.out.trans (Dg.ofGro ho.gro hBz D3.out.hs ⟨_, _, X3.out⟩)); clear hb ho X3 W3)
    | (clear tok2; go_at_call 69; refine (K2.out wb1 W4.out).mono ?_; rintro e wa2 ⟨rfl, ha, ga⟩; have W5 := Go.Lib.hid ha; have D5 := Go.Lib.hid (D4.out.gro ga hne HNR.out); have X5 := Go.Lib.hid (X4.out.gro ga hne3); have G5 : Hid (Dg B gd w wa2) := Go.Lib.hid (G4.out.trans (Dg.ofGro ga hB D4.out.hs W4.out.isc)); clear ha ga W4 X4; dsimp only)
    | (clear tos2; refine wpList_store_any rfl 3 _ _ rfl gr 2 54 _ [.int .i64 n2] _ rfl rfl rfl X5.out info_i1 (by show 2 + 1 ≤ 10; omega) (by intro u hu; rw [List.mem_singleton.1 hu]; rfl) ?_; intro wb2 hb ho; have X6 : Hid (Bxo wb2 gr 54 [.int .i64 n0, .int .i64 n1, .int .i64 n2, .int .u32 0, .int .u32 0, .int .i64 0, .int .i64 0, .int .i64 0, .int .i64 0, .int .i64 0]) := Go.Lib.hid hb; have D6 := Go.Lib.hid (D5.out.gro ho.gro hne2 HNZ.out); have W6 := Go.Lib.hid (W5.out.newer ho hgw); have G6 : Hid (Dg B gd w wb2) := Go.Lib.hid (G5.out.trans (Dg.ofGro ho.gro hBz D5.out.hs ⟨_, _, X5.out⟩)); clear hb ho X5 W5)
    | (clear tok3; go_at_call 68; refine (K3.out wb2 W6.out).mono ?_; rintro e wa3 ⟨rfl, ha, ga⟩; have W7 := Go.Lib.hid ha; have D7 := Go.Lib.hid (D6.out.gro ga hne HNR.out); have X7 := Go.Lib.hid (X6.out.gro ga hne3); have G7 : Hid (Dg B gd w wa3) := Go.Lib.hid (G6.out.trans (Dg.ofGro ga hB D6.out.hs W6.out.isc)); clear ha ga W6 X6; dsimp only)
    | (clear tos3; refine wpList_store_any rfl 24 _ _ rfl gr 3 54 _ [.int .u32 n3] _ rfl rfl rfl X7.out info_u1 (by show 3 + 1 ≤ 10; omega) (by intro u hu; rw [List.mem_singleton.1 hu]; rfl) ?_; intro wb3 hb ho; have X8 : Hid (Bxo wb3 gr 54 [.int .i64 n0, .int .i64 n1, .int .i64 n2, .int .u32 n3, .int .u32 0, .int .i64 0, .int .i64 0, .int .i64 0, .int .i64 0, .int .i64 0]) := Go.Lib.hid hb; have D8 := Go.Lib.hid (D7.out.gro ho.gro hne2 HNZ.out); have W8 := Go.Lib.hid (W7.out.newer ho hgw); have G8 : Hid (Dg B gd w wb3) := Go.Lib.hid (G7.out.trans (Dg.ofGro ho.gro hBz D7.out.hs ⟨_, _, X7.out⟩)); clear hb ho X7 W7)
    | (clear tos4; refine wpList_store_any rfl 3 _ _ rfl gr 5 54 _ [.int .i64 n4] _ rfl rfl rfl X8.out info_i1 (by show 5 + 1 ≤ 10; omega) (by intro u hu; rw [List.mem_singleton.1 hu]; rfl) ?_; intro wb4 hb ho; have X9 : Hid (Bxo wb4 gr 54 [.int .i64 n0, .int .i64 n1, .int .i64 n2, .int .u32 n3, .int .u32 0, .int .i64 n4, .int .i64 0, .int .i64 0, .int .i64 0, .int .i64 0]) := Go.Lib.hid hb; have D9 := Go.Lib.hid (D8.out.gro ho.gro hne2 HNZ.out); have W9 := Go.Lib.hid (W8.out.newer ho hgw); have G9 : Hid (Dg B gd w wb4) := Go.Lib.hid (G8.out.trans (Dg.ofGro ho.gro hBz D8.out.hs ⟨_, _, X8.out⟩)); clear hb ho X8 W8)
    | (clear tok4; go_at_call 68; refine (K4.out wb4 W9.out).mono ?_; rintro e wa4 ⟨rfl, ha, ga⟩; have W10 := Go.Lib.hid ha; have D10 := Go.Lib.hid (D9.out.gro ga hne HNR.out); have X10 := Go.Lib.hid (X9.out.gro ga hne3); have G10 : Hid (Dg B gd w wa4) := Go.Lib.hid (G9.out.trans (Dg.ofGro ga hB D9.out.hs W9.out.isc)); clear ha ga W9 X9; dsimp only)
    | (clear tos5; refine wpList_store_any rfl 24 _ _ rfl gr 4 54 _ [.int .u32 n5] _ rfl rfl rfl X10.out info_u1 (by show 4 + 1 ≤ 10; omega) (by intro u hu; rw [List.mem_singleton.1 hu]; rfl) ?_; intro wb5 hb ho; have X11 : Hid (Bxo wb5 gr 54 [.int .i64 n0, .int .i64 n1, .int .i64 n2, .int .u32 n3, .int .u32 n5, .int .i64 n4, .int .i64 0, .int .i64 0, .int .i64 0, .int .i64 0]) := Go.Lib.hid hb; have D11 := Go.Lib.hid (D10.out.gro ho.gro hne2 HNZ.out); have W11 := Go.Lib.hid (W10.out.newer ho hgw); have G11 : Hid (Dg B gd w wb5) := Go.Lib.hid (G10.out.trans (Dg.ofGro ho.gro hBz D10.out.hs ⟨_, _, X10.out⟩)); clear hb ho X10 W10)
    | (clear tos6; refine wpList_store_any rfl 3 _ _ rfl gr 6 54 _ [.int .i64 n6] _ rfl rfl rfl X11.out info_i1 (by show 6 + 1 ≤ 10; omega) (by intro u hu; rw [List.mem_singleton.1 hu]; rfl) ?_; intro wb6 hb ho; have X12 : Hid (Bxo wb6 gr 54 [.int .i64 n0, .int .i64 n1, .int .i64 n2, .int .u32 n3, .int .u32 n5, .int .i64 n4, .int .i64 n6, .int .i64 0, .int .i64 0, .int .i64 0]) := Go.Lib.hid hb; have D12 := Go.Lib.hid (D11.out.gro ho.gro hne2 HNZ.out); have W12 := Go.Lib.hid (W11.out.newer ho hgw); have G12 : Hid (Dg B gd w wb6) := Go.Lib.hid (G11.out.trans (Dg.ofGro ho.gro hBz D11.out.hs ⟨_, _, X11.out⟩)); clear hb ho X11 W11)
    | (clear tok5; go_at_call 69; refine (K5.out wb6 W12.out).mono ?_; rintro e wa5 ⟨rfl, ha, ga⟩; have W13 := Go.Lib.hid ha; have D13 := Go.Lib.hid (D12.out.gro ga hne HNR.out); have X13 := Go.Lib.hid (X12.out.gro ga hne3); have G13 : Hid (Dg B gd w wa5) := Go.Lib.hid (G12.out.trans (Dg.ofGro ga hB D12.out.hs W12.out.isc)); clear ha ga W12 X12; dsimp only)
    | (clear tos7; refine wpList_store_any rfl 3 _ _ rfl gr 7 54 _ [.int .i64 n7] _ rfl rfl rfl X13.out info_i1 (by show 7 + 1 ≤ 10; omega) (by intro u hu; rw [List.mem_singleton.1 hu]; rfl) ?_; intro wb7 hb ho; have X14 : Hid (Bxo wb7 gr 54 [.int .i64 n0, .int .i64 n1, .int .i64 n2, .int .u32 n3, .int .u32 n5, .int .i64 n4, .int .i64 n6, .int .i64 n7, .int .i64 0, .int .i64 0]) := Go.Lib.hid hb; have D14 := Go.Lib.hid (D13.out.gro ho.gro hne2 HNZ.out); have W14 := Go.Lib.hid (W13.out.newer ho hgw); have G14 : Hid (Dg B gd w wb7) := Go.Lib.hid (G13.out.trans (Dg.ofGro ho.gro hBz D13.out.hs ⟨_, _, X13.out⟩)); clear hb ho X13 W13)
    | (clear tok6; go_at_call 69; refine (K6.out wb7 W14.out).mono ?_; rintro e wa6 ⟨rfl, ha, ga⟩; have W15 := Go.Lib.hid ha; have D15 := Go.Lib.hid (D14.out.gro ga hne HNR.out); have X15 := Go.Lib.hid (X14.out.gro ga hne3); have G15 : Hid (Dg B gd w wa6) := Go.Lib.hid (G14.out.trans (Dg.ofGro ga hB D14.out.hs W14.out.isc)); clear ha ga W14 X14; dsimp only)
    | (clear tos8; refine wpList_store_any rfl 3 _ _ rfl gr 8 54 _ [.int .i64 n8] _ rfl rfl rfl X15.out info_i1 (by show 8 + 1 ≤ 10; omega) (by intro u hu; rw [List.mem_singleton.1 hu]; rfl) ?_; intro wb8 hb ho; have X16 : Hid (Bxo wb8 gr 54 [.int .i64 n0, .int .i64 n1, .int .i64 n2, .int .u32 n3, .int .u32 n5, .int .i64 n4, .int .i64 n6, .int .i64 n7, .int .i64 n8, .int .i64 0]) := Go.Lib.hid hb; have D16 := Go.Lib.hid (D15.out.gro ho.gro hne2 HNZ.out); have W16 := Go.Lib.hid (W15.out.newer ho hgw); have G16 : Hid (Dg B gd w wb8) := Go.Lib.hid (G15.out.trans (Dg.ofGro ho.gro hBz D15.out.hs ⟨_, _, X15.out⟩)); clear hb ho X15 W15)
    | (clear tok7; go_at_call 70; refine (K7.out wb8 W16.out).mono ?_; rintro e wa7 ⟨rfl, ha, ga⟩; have W17 := Go.Lib.hid ha; have D17 := Go.Lib.hid (D16.out.gro ga hne HNR.out); have X17 := Go.Lib.hid (X16.out.gro ga hne3); have G17 : Hid (Dg B gd w wa7) := Go.Lib.hid (G16.out.trans (Dg.ofGro ga hB D16.out.hs W16.out.isc)); clear ha ga W16 X16; dsimp only)
    | (clear tos9; refine wpList_store_any rfl 3 _ _ rfl gr 9 54 _ [.int .i64 n9] _ rfl rfl rfl X17.out info_i1 (by show 9 + 1 ≤ 10; omega) (by intro u hu; rw [List.mem_singleton.1 hu]; rfl) ?_; intro wb9 hb ho; have X18 : Hid (Bxo wb9 gr 54 [.int .i64 n0, .int .i64 n1, .int .i64 n2, .int .u32 n3, .int .u32 n5, .int .i64 n4, .int .i64 n6, .int .i64 n7, .int .i64 n8, .int .i64 n9]) := Go.Lib.hid hb; have D18 := Go.Lib.hid (D17.out.gro ho.gro hne2 HNZ.out); have W18 := Go.Lib.hid (W17.out.newer ho hgw); have G18 : Hid (Dg B gd w wb9) := Go.Lib.hid (G17.out.trans (Dg.ofGro ho.gro hBz D17.out.hs ⟨_, _, X17.out⟩)); clear hb ho X17 W17))
  have c5W := D18.out.box.cell 1 rfl
  have XF : Hid (Bxo wb9 gr 54 (ruL (⟨n0, n1, n2, n3, n5, n4, n6, n7, n8, n9⟩ : Ru))) := Go.Lib.hid X18.out
  obtain ⟨i0_, hi_, hz0, hz1, hz2⟩ := info_parts info_ruz15
  have hb1 := HSZ.out.b
  try simp only [Act.put, List.setIfInBounds_toArray, List.set_cons_zero, List.set_cons_succ]
  refine wp_region_held_drew (S := fun _ => True) (by kernel_rfl) ?_ (fun hHeld => ?_)
  · trivial
  refine wpAnyH_take (i := 0) (oi := ⟨some 37, _, _, _, _, _⟩) (v := ?_) rfl (by kernel_rfl) (by kernel_rfl) (by kernel_rfl) (fun _ _ _ h => h) (Or.inl ⟨by rfl, ?_⟩) (by assumption) ?_
  rotate_left
  · intro w hSw; (try dsimp only at hSw); go_simp; (try with_reducible rfl)
  try simp only [Act.put, List.setIfInBounds_toArray, List.set_cons_zero, List.set_cons_succ]
  refine wpAnyH_take (i := 1) (oi := ⟨some 38, _, _, _, _, _⟩) (v := ?_) rfl (by kernel_rfl) (by kernel_rfl) (by kernel_rfl) (fun _ _ _ h => h) (Or.inl ⟨by rfl, ?_⟩) (by assumption) ?_
  rotate_left
  · intro w hSw; (try dsimp only at hSw); go_simp; (try with_reducible rfl)
  try simp only [Act.put, List.setIfInBounds_toArray, List.set_cons_zero, List.set_cons_succ]
  refine wpAnyH_take (i := 2) (oi := ⟨some 39, _, _, _, _, _⟩) (v := ?_) rfl (by kernel_rfl) (by kernel_rfl) (by kernel_rfl) (fun _ _ _ h => h) (Or.inl ⟨by rfl, ?_⟩) (by assumption) ?_
  rotate_left
  · intro w hSw; (try dsimp only at hSw); go_simp; (try with_reducible rfl)
  try simp only [Act.put, List.setIfInBounds_toArray, List.set_cons_zero, List.set_cons_succ]
  refine wpAnyH_take (i := 3) (oi := ⟨some 40, _, _, _, _, _⟩) (v := ?_) rfl (by kernel_rfl) (by kernel_rfl) (by kernel_rfl) (fun _ _ _ h => h) (Or.inl ⟨by rfl, ?_⟩) (by assumption) ?_
  rotate_left
  · intro w hSw; (try dsimp only at hSw); go_simp; (try with_reducible rfl)
  try simp only [Act.put, List.setIfInBounds_toArray, List.set_cons_zero, List.set_cons_succ]
  refine wpAnyH_take (i := 4) (oi := ⟨some 41, _, _, _, _, _⟩) (v := ?_) rfl (by kernel_rfl) (by kernel_rfl) (by kernel_rfl) (fun _ _ _ h => h) (Or.inl ⟨by rfl, ?_⟩) (by assumption) ?_
  rotate_left
  · intro w hSw; (try dsimp only at hSw); go_simp; (try with_reducible rfl)
  try simp only [Act.put, List.setIfInBounds_toArray, List.set_cons_zero, List.set_cons_succ]
  refine wpAnyH_ready (rs := [5, 6]) (by kernel_rfl) (by simp) (AllReadyH.cons (o := ⟨some 42, _, _, _, _, _⟩) rfl (fun Kc hKc => ?_) (AllReadyH.cons (o := ⟨some 43, _, _, _, _, _⟩) rfl (fun Kc hKc => ?_) AllReadyH.nil))
  ·
    go_simp
    refine hKc.out _ _ (trivial) (fun hHeld => ?_)
    clear hKc Kc
    try simp only [Act.put, List.setIfInBounds_toArray, List.set_cons_zero, List.set_cons_succ]
    refine wpAnyH_ready (rs := [6]) (by kernel_rfl) (by simp) (AllReadyH.cons (o := ⟨some 43, _, _, _, _, _⟩) rfl (fun Kc hKc => ?_) AllReadyH.nil)
    rw [if_pos (by rfl)]
    refine step_load_at 54 _ rfl ⟨gr, 0, none⟩ rfl (ruL (⟨n0, n1, n2, n3, n5, n4, n6, n7, n8, n9⟩ : Ru)) _ XF.out.drew.at Tryz.underlying54 rfl info_ru ?_
    refine hKc.out _ _ (trivial) (fun hHeld => ?_)
    clear hKc Kc
    try simp only [Act.put, List.setIfInBounds_toArray, List.set_cons_zero, List.set_cons_succ]
    refine wpAnyH_ready (rs := [7]) (by kernel_rfl) (by simp) (AllReadyH.cons (o := ⟨some 44, _, _, _, _, _⟩) rfl (fun Kc hKc => ?_) AllReadyH.nil)
    go_simp
    have yB : Below wb9.heap.size wb9 ((wb9.alloc (.cells #[.int .i64 n0, .int .i64 n1, .int .i64 n2, .int .u32 n3, .int .u32 n5, .int .i64 n4, .int .i64 n6, .int .i64 n7, .int .i64 n8, .int .i64 n9] 54)).drew) := below_drew ((Below.refl _ _).alloc (Nat.le_refl _) _); have HV := Go.Lib.hid (show Bxo ((wb9.alloc (.cells #[.int .i64 n0, .int .i64 n1, .int .i64 n2, .int .u32 n3, .int .u32 n5, .int .i64 n4, .int .i64 n6, .int .i64 n7, .int .i64 n8, .int .i64 n9] 54)).drew) wb9.heap.size 54 (ruL (⟨n0, n1, n2, n3, n5, n4, n6, n7, n8, n9⟩ : Ru)) from Bxo.made wb9 54 (ruL (⟨n0, n1, n2, n3, n5, n4, n6, n7, n8, n9⟩ : Ru))); have YB := Go.Lib.hid yB; generalize (wb9.alloc (.cells #[.int .i64 n0, .int .i64 n1, .int .i64 n2, .int .u32 n3, .int .u32 n5, .int .i64 n4, .int .i64 n6, .int .i64 n7, .int .i64 n8, .int .i64 n9] 54)).drew = wB at *; have DB := Go.Lib.hid (D18.out.at YB.out); have GB : Hid (Dg B gd w wB) := Go.Lib.hid (G18.out.trans (Dg.ofBelow YB.out D18.out.hs)); have c5B := DB.out.box.cell 1 rfl; have WB := Go.Lib.hid (W18.out.at YB.out); clear yB
    refine hKc.out _ _ (trivial) (fun hHeld => ?_)
    clear hKc Kc
    try simp only [Act.put, List.setIfInBounds_toArray, List.set_cons_zero, List.set_cons_succ]
    refine wpAnyH_ready (rs := [8]) (by kernel_rfl) (by simp) (AllReadyH.cons (o := ⟨some 45, _, _, _, _, _⟩) rfl (fun Kc hKc => ?_) AllReadyH.nil)
    rw [if_pos (by rfl)]
    refine step_append_rdK _ _ 23 rfl B 54 i0_ _ 10 72 Tryz.underlying23 hi_ hz0 hz1 hz2 rfl (by omega) (.slice p.A2 c.rules.length p.c2) c.rules.length (c.rules.flatMap Ru.L) rfl DB.out.r2 (some ⟨wb9.heap.size, 0, none⟩) 1 1 (ruL (⟨n0, n1, n2, n3, n5, n4, n6, n7, n8, n9⟩ : Ru)) rfl rfl (fun e => by cases e) (.inr ⟨_, rfl, HV.out.at⟩) (by simp [Value.oneCell']) (by unfold maxLen; omega) (by omega) DB.out.hs ?_; intro v8 w8 ho8 hg8 ha8; obtain ⟨A8, c8, rfl⟩ := own_slice ho8; simp only [ownBlock_blk] at hg8 ha8; obtain ⟨hb8, dg8, fin8⟩ := DB.out.app2 (x := (⟨n0, n1, n2, n3, n5, n4, n6, n7, n8, n9⟩ : Ru)) ⟨hr3, hr5⟩ ho8 hg8 ha8; have B8 := Go.Lib.hid hb8; have G8 := Go.Lib.hid (GB.out.trans dg8); have F8 := Go.Lib.hid fin8; have W8 : Hid (∃ A k, Bxo w8 gw 85 (wsL A (l.tail.tail.tail.tail.tail.tail.tail.tail).length k (((((((((((false) || !b0) || !b1) || !b2) || !b3) || !b4) || !b5) || !b6) || !b7) || !b8) || !b9))) := Go.Lib.hid (by obtain ⟨A, k, h1, _, _⟩ := WB.out.is; exact ⟨A, k, h1.grown hg8 HNR.out.a2⟩); clear ho8 hg8 ha8 hb8 dg8 fin8
    refine hKc.out _ _ (trivial) (fun hHeld => ?_)
    clear hKc Kc
    try simp only [Act.put, List.setIfInBounds_toArray, List.set_cons_zero, List.set_cons_succ]
    refine wpAnyH_take (i := 9) (oi := ⟨some 46, _, _, _, _, _⟩) (v := ?_) rfl (by kernel_rfl) (by kernel_rfl) (by kernel_rfl) (fun _ _ _ h => h) (Or.inl ⟨by rfl, ?_⟩) (by assumption) ?_
    rotate_left
    · intro w hSw; (try dsimp only at hSw); go_simp; (try with_reducible rfl)
    try simp only [Act.put, List.setIfInBounds_toArray, List.set_cons_zero, List.set_cons_succ]
    refine wpAnyH_take (i := 10) (oi := ⟨some 47, _, _, _, _, _⟩) (v := ?_) rfl (by kernel_rfl) (by kernel_rfl) (by kernel_rfl) (fun _ _ _ h => h) (Or.inl ⟨by rfl, ?_⟩) (by assumption) ?_
    rotate_left
    · intro w hSw; (try dsimp only at hSw); go_simp; (try with_reducible rfl)
    try simp only [Act.put, List.setIfInBounds_toArray, List.set_cons_zero, List.set_cons_succ]
    refine wpAnyH_take (i := 11) (oi := ⟨some 48, _, _, _, _, _⟩) (v := ?_) rfl (by kernel_rfl) (by kernel_rfl) (by kernel_rfl) (fun _ _ _ h => h) (Or.inl ⟨by rfl, ?_⟩) (by assumption) ?_
    rotate_left
    · intro w hSw; (try dsimp only at hSw); go_simp; (try with_reducible rfl)
    try simp only [Act.put, List.setIfInBounds_toArray, List.set_cons_zero, List.set_cons_succ]
    refine wpAnyH_ready (rs := [12]) (by kernel_rfl) (by simp) (AllReadyH.cons (o := ⟨none, _, _, _, _, _⟩) rfl (fun Kc hKc => ?_) AllReadyH.nil)
    rw [if_pos (by rfl)]
    refine step_store_any 23 _ _ rfl gd 1 66 _ [.slice A8 (c.rules.length + 1) c8] _ rfl rfl rfl B8.out info_sl2 (by show 1 + 1 ≤ 10; omega) (by intro u hu; rw [List.mem_singleton.1 hu]; rfl) ?_; intro w9 hb9 ho9; have HB9 := Go.Lib.hid hb9; have HO9 := Go.Lib.hid ho9; clear hb9 ho9
    refine hKc.out _ _ (trivial) (fun hHeld => ?_)
    clear hKc Kc
    try simp only [Act.put, List.setIfInBounds_toArray, List.set_cons_zero, List.set_cons_succ]
    refine wpAnyH_done (by kernel_rfl) ?_ _
    have e9 : Bxo w9 gd 66 (cfL { c with rules := c.rules ++ [(⟨n0, n1, n2, n3, n5, n4, n6, n7, n8, n9⟩ : Ru)] } { p with A2 := A8, c2 := c8 }) := by
      have := HB9.out
      have e : (c.rules ++ [(⟨n0, n1, n2, n3, n5, n4, n6, n7, n8, n9⟩ : Ru)]).length = c.rules.length + 1 := by simp
      rw [show cfL { c with rules := c.rules ++ [(⟨n0, n1, n2, n3, n5, n4, n6, n7, n8, n9⟩ : Ru)] } { p with A2 := A8, c2 := c8 } = spl (cfL c p) 1 [.slice A8 (c.rules ++ [(⟨n0, n1, n2, n3, n5, n4, n6, n7, n8, n9⟩ : Ru)]).length c8] from rfl, e]
      exact this
    have d9 := F8.out w9 HO9.out e9
    have g9 := G8.out.trans (Dg.ofOnly HO9.out ⟨_, _, B8.out⟩)
    obtain ⟨A, k, w8⟩ := W8.out
    have w9' := w8.only HO9.out (Ne.symm hne)
    go_end0
    exact ⟨rfl, ⟨_, _, A, _, k, _, d9, w9', HP.out⟩, g9, HTB.out.dg g9 H7.out hlt⟩
  ·
    rw [if_pos (by rfl)]
    refine step_load_at 54 _ rfl ⟨gr, 0, none⟩ rfl (ruL (⟨n0, n1, n2, n3, n5, n4, n6, n7, n8, n9⟩ : Ru)) _ XF.out.drew.at Tryz.underlying54 rfl info_ru ?_
    refine hKc.out _ _ (trivial) (fun hHeld => ?_)
    clear hKc Kc
    try simp only [Act.put, List.setIfInBounds_toArray, List.set_cons_zero, List.set_cons_succ]
    refine wpAnyH_ready (rs := [5, 7]) (by kernel_rfl) (by simp) (AllReadyH.cons (o := ⟨some 42, _, _, _, _, _⟩) rfl (fun Kc hKc => ?_) (AllReadyH.cons (o := ⟨some 44, _, _, _, _, _⟩) rfl (fun Kc hKc => ?_) AllReadyH.nil))
    ·
      go_simp
      refine hKc.out _ _ (trivial) (fun hHeld => ?_)
      clear hKc Kc
      try simp only [Act.put, List.setIfInBounds_toArray, List.set_cons_zero, List.set_cons_succ]
      refine wpAnyH_ready (rs := [7]) (by kernel_rfl) (by simp) (AllReadyH.cons (o := ⟨some 44, _, _, _, _, _⟩) rfl (fun Kc hKc => ?_) AllReadyH.nil)
      go_simp
      have yB : Below wb9.heap.size wb9 ((wb9.alloc (.cells #[.int .i64 n0, .int .i64 n1, .int .i64 n2, .int .u32 n3, .int .u32 n5, .int .i64 n4, .int .i64 n6, .int .i64 n7, .int .i64 n8, .int .i64 n9] 54)).drew) := below_drew ((Below.refl _ _).alloc (Nat.le_refl _) _); have HV := Go.Lib.hid (show Bxo ((wb9.alloc (.cells #[.int .i64 n0, .int .i64 n1, .int .i64 n2, .int .u32 n3, .int .u32 n5, .int .i64 n4, .int .i64 n6, .int .i64 n7, .int .i64 n8, .int .i64 n9] 54)).drew) wb9.heap.size 54 (ruL (⟨n0, n1, n2, n3, n5, n4, n6, n7, n8, n9⟩ : Ru)) from Bxo.made wb9 54 (ruL (⟨n0, n1, n2, n3, n5, n4, n6, n7, n8, n9⟩ : Ru))); have YB := Go.Lib.hid yB; generalize (wb9.alloc (.cells #[.int .i64 n0, .int .i64 n1, .int .i64 n2, .int .u32 n3, .int .u32 n5, .int .i64 n4, .int .i64 n6, .int .i64 n7, .int .i64 n8, .int .i64 n9] 54)).drew = wB at *; have DB := Go.Lib.hid (D18.out.at YB.out); have GB : Hid (Dg B gd w wB) := Go.Lib.hid (G18.out.trans (Dg.ofBelow YB.out D18.out.hs)); have c5B := DB.out.box.cell 1 rfl; have WB := Go.Lib.hid (W18.out.at YB.out); clear yB
      refine hKc.out _ _ (trivial) (fun hHeld => ?_)
      clear hKc Kc
      try simp only [Act.put, List.setIfInBounds_toArray, List.set_cons_zero, List.set_cons_succ]
      refine wpAnyH_ready (rs := [8]) (by kernel_rfl) (by simp) (AllReadyH.cons (o := ⟨some 45, _, _, _, _, _⟩) rfl (fun Kc hKc => ?_) AllReadyH.nil)
      rw [if_pos (by rfl)]
      refine step_append_rdK _ _ 23 rfl B 54 i0_ _ 10 72 Tryz.underlying23 hi_ hz0 hz1 hz2 rfl (by omega) (.slice p.A2 c.rules.length p.c2) c.rules.length (c.rules.flatMap Ru.L) rfl DB.out.r2 (some ⟨wb9.heap.size, 0, none⟩) 1 1 (ruL (⟨n0, n1, n2, n3, n5, n4, n6, n7, n8, n9⟩ : Ru)) rfl rfl (fun e => by cases e) (.inr ⟨_, rfl, HV.out.at⟩) (by simp [Value.oneCell']) (by unfold maxLen; omega) (by omega) DB.out.hs ?_; intro v8 w8 ho8 hg8 ha8; obtain ⟨A8, c8, rfl⟩ := own_slice ho8; simp only [ownBlock_blk] at hg8 ha8; obtain ⟨hb8, dg8, fin8⟩ := DB.out.app2 (x := (⟨n0, n1, n2, n3, n5, n4, n6, n7, n8, n9⟩ : Ru)) ⟨hr3, hr5⟩ ho8 hg8 ha8; have B8 := Go.Lib.hid hb8; have G8 := Go.Lib.hid (GB.out.trans dg8); have F8 := Go.Lib.hid fin8; have W8 : Hid (∃ A k, Bxo w8 gw 85 (wsL A (l.tail.tail.tail.tail.tail.tail.tail.tail).length k (((((((((((false) || !b0) || !b1) || !b2) || !b3) || !b4) || !b5) || !b6) || !b7) || !b8) || !b9))) := Go.Lib.hid (by obtain ⟨A, k, h1, _, _⟩ := WB.out.is; exact ⟨A, k, h1.grown hg8 HNR.out.a2⟩); clear ho8 hg8 ha8 hb8 dg8 fin8
      refine hKc.out _ _ (trivial) (fun hHeld => ?_)
      clear hKc Kc
      try simp only [Act.put, List.setIfInBounds_toArray, List.set_cons_zero, List.set_cons_succ]
      refine wpAnyH_take (i := 9) (oi := ⟨some 46, _, _, _, _, _⟩) (v := ?_) rfl (by kernel_rfl) (by kernel_rfl) (by kernel_rfl) (fun _ _ _ h => h) (Or.inl ⟨by rfl, ?_⟩) (by assumption) ?_
      rotate_left
      · intro w hSw; (try dsimp only at hSw); go_simp; (try with_reducible rfl)
      try simp only [Act.put, List.setIfInBounds_toArray, List.set_cons_zero, List.set_cons_succ]
      refine wpAnyH_take (i := 10) (oi := ⟨some 47, _, _, _, _, _⟩) (v := ?_) rfl (by kernel_rfl) (by kernel_rfl) (by kernel_rfl) (fun _ _ _ h => h) (Or.inl ⟨by rfl, ?_⟩) (by assumption) ?_
      rotate_left
      · intro w hSw; (try dsimp only at hSw); go_simp; (try with_reducible rfl)
      try simp only [Act.put, List.setIfInBounds_toArray, List.set_cons_zero, List.set_cons_succ]
      refine wpAnyH_take (i := 11) (oi := ⟨some 48, _, _, _, _, _⟩) (v := ?_) rfl (by kernel_rfl) (by kernel_rfl) (by kernel_rfl) (fun _ _ _ h => h) (Or.inl ⟨by rfl, ?_⟩) (by assumption) ?_
      rotate_left
      · intro w hSw; (try dsimp only at hSw); go_simp; (try with_reducible rfl)
      try simp only [Act.put, List.setIfInBounds_toArray, List.set_cons_zero, List.set_cons_succ]
      refine wpAnyH_ready (rs := [12]) (by kernel_rfl) (by simp) (AllReadyH.cons (o := ⟨none, _, _, _, _, _⟩) rfl (fun Kc hKc => ?_) AllReadyH.nil)
      rw [if_pos (by rfl)]
      refine step_store_any 23 _ _ rfl gd 1 66 _ [.slice A8 (c.rules.length + 1) c8] _ rfl rfl rfl B8.out info_sl2 (by show 1 + 1 ≤ 10; omega) (by intro u hu; rw [List.mem_singleton.1 hu]; rfl) ?_; intro w9 hb9 ho9; have HB9 := Go.Lib.hid hb9; have HO9 := Go.Lib.hid ho9; clear hb9 ho9
      refine hKc.out _ _ (trivial) (fun hHeld => ?_)
      clear hKc Kc
      try simp only [Act.put, List.setIfInBounds_toArray, List.set_cons_zero, List.set_cons_succ]
      refine wpAnyH_done (by kernel_rfl) ?_ _
      have e9 : Bxo w9 gd 66 (cfL { c with rules := c.rules ++ [(⟨n0, n1, n2, n3, n5, n4, n6, n7, n8, n9⟩ : Ru)] } { p with A2 := A8, c2 := c8 }) := by
        have := HB9.out
        have e : (c.rules ++ [(⟨n0, n1, n2, n3, n5, n4, n6, n7, n8, n9⟩ : Ru)]).length = c.rules.length + 1 := by simp
        rw [show cfL { c with rules := c.rules ++ [(⟨n0, n1, n2, n3, n5, n4, n6, n7, n8, n9⟩ : Ru)] } { p with A2 := A8, c2 := c8 } = spl (cfL c p) 1 [.slice A8 (c.rules ++ [(⟨n0, n1, n2, n3, n5, n4, n6, n7, n8, n9⟩ : Ru)]).length c8] from rfl, e]
        exact this
      have d9 := F8.out w9 HO9.out e9
      have g9 := G8.out.trans (Dg.ofOnly HO9.out ⟨_, _, B8.out⟩)
      obtain ⟨A, k, w8⟩ := W8.out
      have w9' := w8.only HO9.out (Ne.symm hne)
      go_end0
      exact ⟨rfl, ⟨_, _, A, _, k, _, d9, w9', HP.out⟩, g9, HTB.out.dg g9 H7.out hlt⟩
    ·
      go_simp
      have yB : Below wb9.heap.size wb9 ((wb9.alloc (.cells #[.int .i64 n0, .int .i64 n1, .int .i64 n2, .int .u32 n3, .int .u32 n5, .int .i64 n4, .int .i64 n6, .int .i64 n7, .int .i64 n8, .int .i64 n9] 54)).drew) := below_drew ((Below.refl _ _).alloc (Nat.le_refl _) _); have HV := Go.Lib.hid (show Bxo ((wb9.alloc (.cells #[.int .i64 n0, .int .i64 n1, .int .i64 n2, .int .u32 n3, .int .u32 n5, .int .i64 n4, .int .i64 n6, .int .i64 n7, .int .i64 n8, .int .i64 n9] 54)).drew) wb9.heap.size 54 (ruL (⟨n0, n1, n2, n3, n5, n4, n6, n7, n8, n9⟩ : Ru)) from Bxo.made wb9 54 (ruL (⟨n0, n1, n2, n3, n5, n4, n6, n7, n8, n9⟩ : Ru))); have YB := Go.Lib.hid yB; generalize (wb9.alloc (.cells #[.int .i64 n0, .int .i64 n1, .int .i64 n2, .int .u32 n3, .int .u32 n5, .int .i64 n4, .int .i64 n6, .int .i64 n7, .int .i64 n8, .int .i64 n9] 54)).drew = wB at *; have DB := Go.Lib.hid (D18.out.at YB.out); have GB : Hid (Dg B gd w wB) := Go.Lib.hid (G18.out.trans (Dg.ofBelow YB.out D18.out.hs)); have c5B := DB.out.box.cell 1 rfl; have WB := Go.Lib.hid (W18.out.at YB.out); clear yB
      refine hKc.out _ _ (trivial) (fun hHeld => ?_)
      clear hKc Kc
      try simp only [Act.put, List.setIfInBounds_toArray, List.set_cons_zero, List.set_cons_succ]
      refine wpAnyH_ready (rs := [5]) (by kernel_rfl) (by simp) (AllReadyH.cons (o := ⟨some 42, _, _, _, _, _⟩) rfl (fun Kc hKc => ?_) AllReadyH.nil)
      go_simp
      refine hKc.out _ _ (trivial) (fun hHeld => ?_)
      clear hKc Kc
      try simp only [Act.put, List.setIfInBounds_toArray, List.set_cons_zero, List.set_cons_succ]
      refine wpAnyH_ready (rs := [8]) (by kernel_rfl) (by simp) (AllReadyH.cons (o := ⟨some 45, _, _, _, _, _⟩) rfl (fun Kc hKc => ?_) AllReadyH.nil)
      rw [if_pos (by rfl)]
      refine step_append_rdK _ _ 23 rfl B 54 i0_ _ 10 72 Tryz.underlying23 hi_ hz0 hz1 hz2 rfl (by omega) (.slice p.A2 c.rules.length p.c2) c.rules.length (c.rules.flatMap Ru.L) rfl DB.out.r2 (some ⟨wb9.heap.size, 0, none⟩) 1 1 (ruL (⟨n0, n1, n2, n3, n5, n4, n6, n7, n8, n9⟩ : Ru)) rfl rfl (fun e => by cases e) (.inr ⟨_, rfl, HV.out.at⟩) (by simp [Value.oneCell']) (by unfold maxLen; omega) (by omega) DB.out.hs ?_; intro v8 w8 ho8 hg8 ha8; obtain ⟨A8, c8, rfl⟩ := own_slice ho8; simp only [ownBlock_blk] at hg8 ha8; obtain ⟨hb8, dg8, fin8⟩ := DB.out.app2 (x := (⟨n0, n1, n2, n3, n5, n4, n6, n7, n8, n9⟩ : Ru)) ⟨hr3, hr5⟩ ho8 hg8 ha8; have B8 := Go.Lib.hid hb8; have G8 := Go.Lib.hid (GB.out.trans dg8); have F8 := Go.Lib.hid fin8; have W8 : Hid (∃ A k, Bxo w8 gw 85 (wsL A (l.tail.tail.tail.tail.tail.tail.tail.tail).length k (((((((((((false) || !b0) || !b1) || !b2) || !b3) || !b4) || !b5) || !b6) || !b7) || !b8) || !b9))) := Go.Lib.hid (by obtain ⟨A, k, h1, _, _⟩ := WB.out.is; exact ⟨A, k, h1.grown hg8 HNR.out.a2⟩); clear ho8 hg8 ha8 hb8 dg8 fin8
      refine hKc.out _ _ (trivial) (fun hHeld => ?_)
      clear hKc Kc
      try simp only [Act.put, List.setIfInBounds_toArray, List.set_cons_zero, List.set_cons_succ]
      refine wpAnyH_take (i := 9) (oi := ⟨some 46, _, _, _, _, _⟩) (v := ?_) rfl (by kernel_rfl) (by kernel_rfl) (by kernel_rfl) (fun _ _ _ h => h) (Or.inl ⟨by rfl, ?_⟩) (by assumption) ?_
      rotate_left
      · intro w hSw; (try dsimp only at hSw); go_simp; (try with_reducible rfl)
      try simp only [Act.put, List.setIfInBounds_toArray, List.set_cons_zero, List.set_cons_succ]
      refine wpAnyH_take (i := 10) (oi := ⟨some 47, _, _, _, _, _⟩) (v := ?_) rfl (by kernel_rfl) (by kernel_rfl) (by kernel_rfl) (fun _ _ _ h => h) (Or.inl ⟨by rfl, ?_⟩) (by assumption) ?_
      rotate_left
      · intro w hSw; (try dsimp only at hSw); go_simp; (try with_reducible rfl)
      try simp only [Act.put, List.setIfInBounds_toArray, List.set_cons_zero, List.set_cons_succ]
      refine wpAnyH_take (i := 11) (oi := ⟨some 48, _, _, _, _, _⟩) (v := ?_) rfl (by kernel_rfl) (by kernel_rfl) (by kernel_rfl) (fun _ _ _ h => h) (Or.inl ⟨by rfl, ?_⟩) (by assumption) ?_
      rotate_left
      · intro w hSw; (try dsimp only at hSw); go_simp; (try with_reducible rfl)
      try simp only [Act.put, List.setIfInBounds_toArray, List.set_cons_zero, List.set_cons_succ]
      refine wpAnyH_ready (rs := [12]) (by kernel_rfl) (by simp) (AllReadyH.cons (o := ⟨none, _, _, _, _, _⟩) rfl (fun Kc hKc => ?_) AllReadyH.nil)
      rw [if_pos (by rfl)]
      refine step_store_any 23 _ _ rfl gd 1 66 _ [.slice A8 (c.rules.length + 1) c8] _ rfl rfl rfl B8.out info_sl2 (by show 1 + 1 ≤ 10; omega) (by intro u hu; rw [List.mem_singleton.1 hu]; rfl) ?_; intro w9 hb9 ho9; have HB9 := Go.Lib.hid hb9; have HO9 := Go.Lib.hid ho9; clear hb9 ho9
      refine hKc.out _ _ (trivial) (fun hHeld => ?_)
      clear hKc Kc
      try simp only [Act.put, List.setIfInBounds_toArray, List.set_cons_zero, List.set_cons_succ]
      refine wpAnyH_done (by kernel_rfl) ?_ _
      have e9 : Bxo w9 gd 66 (cfL { c with rules := c.rules ++ [(⟨n0, n1, n2, n3, n5, n4, n6, n7, n8, n9⟩ : Ru)] } { p with A2 := A8, c2 := c8 }) := by
        have := HB9.out
        have e : (c.rules ++ [(⟨n0, n1, n2, n3, n5, n4, n6, n7, n8, n9⟩ : Ru)]).length = c.rules.length + 1 := by simp
        rw [show cfL { c with rules := c.rules ++ [(⟨n0, n1, n2, n3, n5, n4, n6, n7, n8, n9⟩ : Ru)] } { p with A2 := A8, c2 := c8 } = spl (cfL c p) 1 [.slice A8 (c.rules ++ [(⟨n0, n1, n2, n3, n5, n4, n6, n7, n8, n9⟩ : Ru)]).length c8] from rfl, e]
        exact this
      have d9 := F8.out w9 HO9.out e9
      have g9 := G8.out.trans (Dg.ofOnly HO9.out ⟨_, _, B8.out⟩)
      obtain ⟨A, k, w8⟩ := W8.out
      have w9' := w8.only HO9.out (Ne.symm hne)
      go_end0
      exact ⟨rfl, ⟨_, _, A, _, k, _, d9, w9', HP.out⟩, g9, HTB.out.dg g9 H7.out hlt⟩
end Go.Proofs.YtoghcefamoefpaaGreatDoor

/- The landed conf: the line forward. -/
namespace Go.Proofs.YtoghcefamoefpaaGreatDoor
open Go.ChangeShapes Go.WideShapes Go.ChangeAt Go.RowKit
set_option linter.unusedVariables false
set_option linter.unusedSimpArgs false

theorem info_fwz15 : (Tryz.prog.info? 40).map (fun i => (i.zero, i.size, i.bytes)) = some (some (.agg #[.int .i64 0, .int .i64 0, .int .u32 0, .int .i64 0, .bool false]), 5, 40) := by kernel_rfl
set_option maxRecDepth 100000 in
set_option maxHeartbeats 4000000 in
theorem cforward15 : ReaderS 56 forwardP := by
  intro B gd c p gw l w hsz hd hw hB hn
  have hlt := hd.lt
  have hne : gd ≠ gw := by omega
  obtain ⟨q0, hq0⟩ : ∃ q, numP (hdT (l)) = q := ⟨_, rfl⟩
  obtain ⟨q1, hq1⟩ : ∃ q, numP (hdT (l.tail)) = q := ⟨_, rfl⟩
  obtain ⟨q2, hq2⟩ : ∃ q, addrP (hdT (l.tail.tail)) = q := ⟨_, rfl⟩
  have hr2 : 0 ≤ q2.getD 0 ∧ q2.getD 0 ≤ 4294967295 := by
    cases hx : q2 with
    | none => decide
    | some v => rw [hx] at hq2; exact addrP_rng hq2
  obtain ⟨q3, hq3⟩ : ∃ q, numP (hdT (l.tail.tail.tail)) = q := ⟨_, rfl⟩
  have k0 := fun w h => cnumber15 (B := B) gw (l) (false) w h q0 hq0
  have k1 := fun w h => cnumber15 (B := B) gw (l.tail) ((false) || !q0.isSome) w h q1 hq1
  have k2 := fun w h => caddress15 (B := B) gw (l.tail.tail) (((false) || !q0.isSome) || !q1.isSome) w h q2 hq2
  have k3 := fun w h => cnumber15 (B := B) gw (l.tail.tail.tail) ((((false) || !q0.isSome) || !q1.isSome) || !q2.isSome) w h q3 hq3
  have k4 := fun w h => cperhaps15 (B := B) gw (l.tail.tail.tail.tail) (((((false) || !q0.isSome) || !q1.isSome) || !q2.isSome) || !q3.isSome) w h
  have hP : forwardP c (l.map txB) = okB (((((((false) || !q0.isSome) || !q1.isSome) || !q2.isSome) || !q3.isSome) || (!(l.tail.tail.tail.tail).isEmpty && !(perhQ (l.tail.tail.tail.tail)))) || !(l.tail.tail.tail.tail.tail).isEmpty) { c with fwds := c.fwds ++ [⟨q0.getD 0, q1.getD 0, q2.getD 0, q3.getD 0, !(l.tail.tail.tail.tail).isEmpty⟩] } := by
    rw [forward_seq]
    simp only [map_tail, nQ, aQ, cA, cB, tQ, map_hd, map_emp, perh_tx, hq0, hq1, hq2, hq3]
  generalize q0.getD 0 = n0 at *
  generalize q0.isSome = b0 at *
  generalize q1.getD 0 = n1 at *
  generalize q1.isSome = b1 at *
  generalize q2.getD 0 = n2 at *
  generalize q2.isSome = b2 at *
  generalize q3.getD 0 = n3 at *
  generalize q3.isSome = b3 at *
  generalize (l.tail.tail.tail.tail).isEmpty = be at *
  generalize perhQ (l.tail.tail.tail.tail) = pq at *
  have K0 := Go.Lib.hid k0
  have tok0 : True := trivial
  have K1 := Go.Lib.hid k1
  have tok1 : True := trivial
  have K2 := Go.Lib.hid k2
  have tok2 : True := trivial
  have K3 := Go.Lib.hid k3
  have tok3 : True := trivial
  have K4 := Go.Lib.hid k4
  have tok4 : True := trivial
  have tos0 : True := trivial
  have tos1 : True := trivial
  have tos2 : True := trivial
  have tos3 : True := trivial
  have tos4 : True := trivial
  have HP := Go.Lib.hid hP
  have hgw := (show gw < w.heap.size from by obtain ⟨A, k, h1, _, _⟩ := hw.is; exact h1.lt)
  have hnr := hd.norow (Nat.le_refl w.heap.size)
  have yz : Below w.heap.size w (w.alloc (.cells #[.int .i64 0, .int .i64 0, .int .u32 0, .int .i64 0, .bool false] 40)) := (Below.refl _ _).alloc (Nat.le_refl _) _
  have D0 := Go.Lib.hid (hd.at yz)
  have W0 := Go.Lib.hid (hw.at yz)
  have HNR := Go.Lib.hid hn
  have HNZ := Go.Lib.hid hnr
  have H7 := Go.Lib.hid hd.out
  have X0 := Go.Lib.hid (Bxo.made w 40 [.int .i64 0, .int .i64 0, .int .u32 0, .int .i64 0, .bool false])
  have hBz : B ≤ w.heap.size := hd.hs
  have G0 : Hid (Dg B gd w (w.alloc (.cells #[.int .i64 0, .int .i64 0, .int .u32 0, .int .i64 0, .bool false] 40))) := Go.Lib.hid (Dg.ofBelow yz hBz)
  have HSZ := Go.Lib.hid hsz
  have HTB := Go.Lib.hid hw.tb
  clear k0 k1 k2 k3 k4 hP hd hw hn hnr hsz yz hq0 hq1 hq2 hq3
  go_enter Tryz.func56, Tryz.ntmps56
  go_upto_region 1 with fail
  generalize w.alloc (.cells #[.int .i64 0, .int .i64 0, .int .u32 0, .int .i64 0, .bool false] 40) = w0 at *
  obtain ⟨gr, hgr⟩ : ∃ g, w.heap.size = g := ⟨_, rfl⟩
  rw [hgr] at hgw HNZ X0 hBz ⊢
  have hne2 : gd ≠ gr := by omega
  have hne3 : gr ≠ gw := by omega
  go_upto_region 6 with (first
    | (clear tok0; go_at_call 69; refine (K0.out w0 W0.out).mono ?_; rintro e wa0 ⟨rfl, ha, ga⟩; have W1 := Go.Lib.hid ha; have D1 := Go.Lib.hid (D0.out.gro ga hne HNR.out); have X1 := Go.Lib.hid (X0.out.gro ga hne3); have G1 : Hid (Dg B gd w wa0) := Go.Lib.hid (G0.out.trans (Dg.ofGro ga hB D0.out.hs W0.out.isc)); clear ha ga W0 X0; dsimp only)
    | (clear tos0; refine wpList_store_any rfl 3 _ _ rfl gr 0 40 _ [.int .i64 n0] _ rfl rfl rfl X1.out info_i1 (by show 0 + 1 ≤ 5; omega) (by intro u hu; rw [List.mem_singleton.1 hu]; rfl) ?_; intro wb0 hb ho; have X2 : Hid (Bxo wb0 gr 40 [.int .i64 n0, .int .i64 0, .int .u32 0, .int .i64 0, .bool false]) := Go.Lib.hid hb; have D2 := Go.Lib.hid (D1.out.gro ho.gro hne2 HNZ.out); have W2 := Go.Lib.hid (W1.out.newer ho hgw); have G2 : Hid (Dg B gd w wb0) := Go.Lib.hid (G1.out.trans (Dg.ofGro ho.gro hBz D1.out.hs ⟨_, _, X1.out⟩)); clear hb ho X1 W1)
    | (clear tok1; go_at_call 69; refine (K1.out wb0 W2.out).mono ?_; rintro e wa1 ⟨rfl, ha, ga⟩; have W3 := Go.Lib.hid ha; have D3 := Go.Lib.hid (D2.out.gro ga hne HNR.out); have X3 := Go.Lib.hid (X2.out.gro ga hne3); have G3 : Hid (Dg B gd w wa1) := Go.Lib.hid (G2.out.trans (Dg.ofGro ga hB D2.out.hs W2.out.isc)); clear ha ga W2 X2; dsimp only)
    | (clear tos1; refine wpList_store_any rfl 3 _ _ rfl gr 1 40 _ [.int .i64 n1] _ rfl rfl rfl X3.out info_i1 (by show 1 + 1 ≤ 5; omega) (by intro u hu; rw [List.mem_singleton.1 hu]; rfl) ?_; intro wb1 hb ho; have X4 : Hid (Bxo wb1 gr 40 [.int .i64 n0, .int .i64 n1, .int .u32 0, .int .i64 0, .bool false]) := Go.Lib.hid hb; have D4 := Go.Lib.hid (D3.out.gro ho.gro hne2 HNZ.out); have W4 := Go.Lib.hid (W3.out.newer ho hgw); have G4 : Hid (Dg B gd w wb1) := Go.Lib.hid (G3.out.trans (Dg.ofGro ho.gro hBz D3.out.hs ⟨_, _, X3.out⟩)); clear hb ho X3 W3)
    | (clear tok2; go_at_call 71; refine (K2.out wb1 W4.out).mono ?_; rintro e wa2 ⟨rfl, ha, ga⟩; have W5 := Go.Lib.hid ha; have D5 := Go.Lib.hid (D4.out.gro ga hne HNR.out); have X5 := Go.Lib.hid (X4.out.gro ga hne3); have G5 : Hid (Dg B gd w wa2) := Go.Lib.hid (G4.out.trans (Dg.ofGro ga hB D4.out.hs W4.out.isc)); clear ha ga W4 X4; dsimp only)
    | (clear tos2; refine wpList_store_any rfl 24 _ _ rfl gr 2 40 _ [.int .u32 n2] _ rfl rfl rfl X5.out info_u1 (by show 2 + 1 ≤ 5; omega) (by intro u hu; rw [List.mem_singleton.1 hu]; rfl) ?_; intro wb2 hb ho; have X6 : Hid (Bxo wb2 gr 40 [.int .i64 n0, .int .i64 n1, .int .u32 n2, .int .i64 0, .bool false]) := Go.Lib.hid hb; have D6 := Go.Lib.hid (D5.out.gro ho.gro hne2 HNZ.out); have W6 := Go.Lib.hid (W5.out.newer ho hgw); have G6 : Hid (Dg B gd w wb2) := Go.Lib.hid (G5.out.trans (Dg.ofGro ho.gro hBz D5.out.hs ⟨_, _, X5.out⟩)); clear hb ho X5 W5)
    | (clear tok3; go_at_call 69; refine (K3.out wb2 W6.out).mono ?_; rintro e wa3 ⟨rfl, ha, ga⟩; have W7 := Go.Lib.hid ha; have D7 := Go.Lib.hid (D6.out.gro ga hne HNR.out); have X7 := Go.Lib.hid (X6.out.gro ga hne3); have G7 : Hid (Dg B gd w wa3) := Go.Lib.hid (G6.out.trans (Dg.ofGro ga hB D6.out.hs W6.out.isc)); clear ha ga W6 X6; dsimp only)
    | (clear tos3; refine wpList_store_any rfl 3 _ _ rfl gr 3 40 _ [.int .i64 n3] _ rfl rfl rfl X7.out info_i1 (by show 3 + 1 ≤ 5; omega) (by intro u hu; rw [List.mem_singleton.1 hu]; rfl) ?_; intro wb3 hb ho; have X8 : Hid (Bxo wb3 gr 40 [.int .i64 n0, .int .i64 n1, .int .u32 n2, .int .i64 n3, .bool false]) := Go.Lib.hid hb; have D8 := Go.Lib.hid (D7.out.gro ho.gro hne2 HNZ.out); have W8 := Go.Lib.hid (W7.out.newer ho hgw); have G8 : Hid (Dg B gd w wb3) := Go.Lib.hid (G7.out.trans (Dg.ofGro ho.gro hBz D7.out.hs ⟨_, _, X7.out⟩)); clear hb ho X7 W7)
    | (clear tok4; go_at_call 72; refine (K4.out wb3 W8.out).mono ?_; rintro e wa4 ⟨rfl, ha, ga⟩; have W9 := Go.Lib.hid ha; have D9 := Go.Lib.hid (D8.out.gro ga hne HNR.out); have X9 := Go.Lib.hid (X8.out.gro ga hne3); have G9 : Hid (Dg B gd w wa4) := Go.Lib.hid (G8.out.trans (Dg.ofGro ga hB D8.out.hs W8.out.isc)); clear ha ga W8 X8; dsimp only)
    | (clear tos4; refine wpList_store_any rfl 4 _ _ rfl gr 4 40 _ [.bool (!be)] _ rfl rfl rfl X9.out info_bo (by show 4 + 1 ≤ 5; omega) (by intro u hu; rw [List.mem_singleton.1 hu]; rfl) ?_; intro wb4 hb ho; have X10 : Hid (Bxo wb4 gr 40 [.int .i64 n0, .int .i64 n1, .int .u32 n2, .int .i64 n3, .bool (!be)]) := Go.Lib.hid hb; have D10 := Go.Lib.hid (D9.out.gro ho.gro hne2 HNZ.out); have W10 := Go.Lib.hid (W9.out.newer ho hgw); have G10 : Hid (Dg B gd w wb4) := Go.Lib.hid (G9.out.trans (Dg.ofGro ho.gro hBz D9.out.hs ⟨_, _, X9.out⟩)); clear hb ho X9 W9))
  have c5W := D10.out.box.cell 6 rfl
  have XF : Hid (Bxo wb4 gr 40 (fwL (⟨n0, n1, n2, n3, !be⟩ : Fw))) := Go.Lib.hid X10.out
  obtain ⟨i0_, hi_, hz0, hz1, hz2⟩ := info_parts info_fwz15
  have hb1 := HSZ.out.c
  try simp only [Act.put, List.setIfInBounds_toArray, List.set_cons_zero, List.set_cons_succ]
  refine wp_region_held_drew (S := fun _ => True) (by kernel_rfl) ?_ (fun hHeld => ?_)
  · trivial
  refine wpAnyH_take (i := 0) (oi := ⟨some 20, _, _, _, _, _⟩) (v := ?_) rfl (by kernel_rfl) (by kernel_rfl) (by kernel_rfl) (fun _ _ _ h => h) (Or.inl ⟨by rfl, ?_⟩) (by assumption) ?_
  rotate_left
  · intro w hSw; (try dsimp only at hSw); go_simp; (try with_reducible rfl)
  try simp only [Act.put, List.setIfInBounds_toArray, List.set_cons_zero, List.set_cons_succ]
  refine wpAnyH_take (i := 1) (oi := ⟨some 21, _, _, _, _, _⟩) (v := ?_) rfl (by kernel_rfl) (by kernel_rfl) (by kernel_rfl) (fun _ _ _ h => h) (Or.inl ⟨by rfl, ?_⟩) (by assumption) ?_
  rotate_left
  · intro w hSw; (try dsimp only at hSw); go_simp; (try with_reducible rfl)
  try simp only [Act.put, List.setIfInBounds_toArray, List.set_cons_zero, List.set_cons_succ]
  refine wpAnyH_take (i := 2) (oi := ⟨some 22, _, _, _, _, _⟩) (v := ?_) rfl (by kernel_rfl) (by kernel_rfl) (by kernel_rfl) (fun _ _ _ h => h) (Or.inl ⟨by rfl, ?_⟩) (by assumption) ?_
  rotate_left
  · intro w hSw; (try dsimp only at hSw); go_simp; (try with_reducible rfl)
  try simp only [Act.put, List.setIfInBounds_toArray, List.set_cons_zero, List.set_cons_succ]
  refine wpAnyH_take (i := 3) (oi := ⟨some 23, _, _, _, _, _⟩) (v := ?_) rfl (by kernel_rfl) (by kernel_rfl) (by kernel_rfl) (fun _ _ _ h => h) (Or.inl ⟨by rfl, ?_⟩) (by assumption) ?_
  rotate_left
  · intro w hSw; (try dsimp only at hSw); go_simp; (try with_reducible rfl)
  try simp only [Act.put, List.setIfInBounds_toArray, List.set_cons_zero, List.set_cons_succ]
  refine wpAnyH_take (i := 4) (oi := ⟨some 24, _, _, _, _, _⟩) (v := ?_) rfl (by kernel_rfl) (by kernel_rfl) (by kernel_rfl) (fun _ _ _ h => h) (Or.inl ⟨by rfl, ?_⟩) (by assumption) ?_
  rotate_left
  · intro w hSw; (try dsimp only at hSw); go_simp; (try with_reducible rfl)
  try simp only [Act.put, List.setIfInBounds_toArray, List.set_cons_zero, List.set_cons_succ]
  refine wpAnyH_ready (rs := [5, 6]) (by kernel_rfl) (by simp) (AllReadyH.cons (o := ⟨some 25, _, _, _, _, _⟩) rfl (fun Kc hKc => ?_) (AllReadyH.cons (o := ⟨some 26, _, _, _, _, _⟩) rfl (fun Kc hKc => ?_) AllReadyH.nil))
  ·
    go_simp
    refine hKc.out _ _ (trivial) (fun hHeld => ?_)
    clear hKc Kc
    try simp only [Act.put, List.setIfInBounds_toArray, List.set_cons_zero, List.set_cons_succ]
    refine wpAnyH_ready (rs := [6]) (by kernel_rfl) (by simp) (AllReadyH.cons (o := ⟨some 26, _, _, _, _, _⟩) rfl (fun Kc hKc => ?_) AllReadyH.nil)
    rw [if_pos (by rfl)]
    refine step_load_at 40 _ rfl ⟨gr, 0, none⟩ rfl (fwL (⟨n0, n1, n2, n3, !be⟩ : Fw)) _ XF.out.drew.at Tryz.underlying40 rfl info_fw ?_
    refine hKc.out _ _ (trivial) (fun hHeld => ?_)
    clear hKc Kc
    try simp only [Act.put, List.setIfInBounds_toArray, List.set_cons_zero, List.set_cons_succ]
    refine wpAnyH_ready (rs := [7]) (by kernel_rfl) (by simp) (AllReadyH.cons (o := ⟨some 27, _, _, _, _, _⟩) rfl (fun Kc hKc => ?_) AllReadyH.nil)
    go_simp
    have yB : Below wb4.heap.size wb4 ((wb4.alloc (.cells #[.int .i64 n0, .int .i64 n1, .int .u32 n2, .int .i64 n3, .bool (!be)] 40)).drew) := below_drew ((Below.refl _ _).alloc (Nat.le_refl _) _); have HV := Go.Lib.hid (show Bxo ((wb4.alloc (.cells #[.int .i64 n0, .int .i64 n1, .int .u32 n2, .int .i64 n3, .bool (!be)] 40)).drew) wb4.heap.size 40 (fwL (⟨n0, n1, n2, n3, !be⟩ : Fw)) from Bxo.made wb4 40 (fwL (⟨n0, n1, n2, n3, !be⟩ : Fw))); have YB := Go.Lib.hid yB; generalize (wb4.alloc (.cells #[.int .i64 n0, .int .i64 n1, .int .u32 n2, .int .i64 n3, .bool (!be)] 40)).drew = wB at *; have DB := Go.Lib.hid (D10.out.at YB.out); have GB : Hid (Dg B gd w wB) := Go.Lib.hid (G10.out.trans (Dg.ofBelow YB.out D10.out.hs)); have c5B := DB.out.box.cell 6 rfl; have WB := Go.Lib.hid (W10.out.at YB.out); clear yB
    refine hKc.out _ _ (trivial) (fun hHeld => ?_)
    clear hKc Kc
    try simp only [Act.put, List.setIfInBounds_toArray, List.set_cons_zero, List.set_cons_succ]
    refine wpAnyH_ready (rs := [8]) (by kernel_rfl) (by simp) (AllReadyH.cons (o := ⟨some 28, _, _, _, _, _⟩) rfl (fun Kc hKc => ?_) AllReadyH.nil)
    rw [if_pos (by rfl)]
    refine step_append_rdK _ _ 25 rfl B 40 i0_ _ 5 40 Tryz.underlying25 hi_ hz0 hz1 hz2 rfl (by omega) (.slice p.A3 c.fwds.length p.c3) c.fwds.length (c.fwds.flatMap Fw.L) rfl DB.out.r3 (some ⟨wb4.heap.size, 0, none⟩) 1 1 (fwL (⟨n0, n1, n2, n3, !be⟩ : Fw)) rfl rfl (fun e => by cases e) (.inr ⟨_, rfl, HV.out.at⟩) (by simp [Value.oneCell']) (by unfold maxLen; omega) (by omega) DB.out.hs ?_; intro v8 w8 ho8 hg8 ha8; obtain ⟨A8, c8, rfl⟩ := own_slice ho8; simp only [ownBlock_blk] at hg8 ha8; obtain ⟨hb8, dg8, fin8⟩ := DB.out.app3 (x := (⟨n0, n1, n2, n3, !be⟩ : Fw)) hr2 ho8 hg8 ha8; have B8 := Go.Lib.hid hb8; have G8 := Go.Lib.hid (GB.out.trans dg8); have F8 := Go.Lib.hid fin8; have W8 : Hid (∃ A k, Bxo w8 gw 85 (wsL A (l.tail.tail.tail.tail.tail).length k ((((((false) || !b0) || !b1) || !b2) || !b3) || (!be && !(pq))))) := Go.Lib.hid (by obtain ⟨A, k, h1, _, _⟩ := WB.out.is; exact ⟨A, k, h1.grown hg8 HNR.out.a3⟩); clear ho8 hg8 ha8 hb8 dg8 fin8
    refine hKc.out _ _ (trivial) (fun hHeld => ?_)
    clear hKc Kc
    try simp only [Act.put, List.setIfInBounds_toArray, List.set_cons_zero, List.set_cons_succ]
    refine wpAnyH_take (i := 9) (oi := ⟨some 29, _, _, _, _, _⟩) (v := ?_) rfl (by kernel_rfl) (by kernel_rfl) (by kernel_rfl) (fun _ _ _ h => h) (Or.inl ⟨by rfl, ?_⟩) (by assumption) ?_
    rotate_left
    · intro w hSw; (try dsimp only at hSw); go_simp; (try with_reducible rfl)
    try simp only [Act.put, List.setIfInBounds_toArray, List.set_cons_zero, List.set_cons_succ]
    refine wpAnyH_take (i := 10) (oi := ⟨some 30, _, _, _, _, _⟩) (v := ?_) rfl (by kernel_rfl) (by kernel_rfl) (by kernel_rfl) (fun _ _ _ h => h) (Or.inl ⟨by rfl, ?_⟩) (by assumption) ?_
    rotate_left
    · intro w hSw; (try dsimp only at hSw); go_simp; (try with_reducible rfl)
    try simp only [Act.put, List.setIfInBounds_toArray, List.set_cons_zero, List.set_cons_succ]
    refine wpAnyH_take (i := 11) (oi := ⟨some 31, _, _, _, _, _⟩) (v := ?_) rfl (by kernel_rfl) (by kernel_rfl) (by kernel_rfl) (fun _ _ _ h => h) (Or.inl ⟨by rfl, ?_⟩) (by assumption) ?_
    rotate_left
    · intro w hSw; (try dsimp only at hSw); go_simp; (try with_reducible rfl)
    try simp only [Act.put, List.setIfInBounds_toArray, List.set_cons_zero, List.set_cons_succ]
    refine wpAnyH_ready (rs := [12]) (by kernel_rfl) (by simp) (AllReadyH.cons (o := ⟨none, _, _, _, _, _⟩) rfl (fun Kc hKc => ?_) AllReadyH.nil)
    rw [if_pos (by rfl)]
    refine step_store_any 25 _ _ rfl gd 6 66 _ [.slice A8 (c.fwds.length + 1) c8] _ rfl rfl rfl B8.out info_sl3 (by show 6 + 1 ≤ 10; omega) (by intro u hu; rw [List.mem_singleton.1 hu]; rfl) ?_; intro w9 hb9 ho9; have HB9 := Go.Lib.hid hb9; have HO9 := Go.Lib.hid ho9; clear hb9 ho9
    refine hKc.out _ _ (trivial) (fun hHeld => ?_)
    clear hKc Kc
    try simp only [Act.put, List.setIfInBounds_toArray, List.set_cons_zero, List.set_cons_succ]
    refine wpAnyH_done (by kernel_rfl) ?_ _
    have e9 : Bxo w9 gd 66 (cfL { c with fwds := c.fwds ++ [(⟨n0, n1, n2, n3, !be⟩ : Fw)] } { p with A3 := A8, c3 := c8 }) := by
      have := HB9.out
      have e : (c.fwds ++ [(⟨n0, n1, n2, n3, !be⟩ : Fw)]).length = c.fwds.length + 1 := by simp
      rw [show cfL { c with fwds := c.fwds ++ [(⟨n0, n1, n2, n3, !be⟩ : Fw)] } { p with A3 := A8, c3 := c8 } = spl (cfL c p) 6 [.slice A8 (c.fwds ++ [(⟨n0, n1, n2, n3, !be⟩ : Fw)]).length c8] from rfl, e]
      exact this
    have d9 := F8.out w9 HO9.out e9
    have g9 := G8.out.trans (Dg.ofOnly HO9.out ⟨_, _, B8.out⟩)
    obtain ⟨A, k, w8⟩ := W8.out
    have w9' := w8.only HO9.out (Ne.symm hne)
    go_end0
    exact ⟨rfl, ⟨_, _, A, _, k, _, d9, w9', HP.out⟩, g9, HTB.out.dg g9 H7.out hlt⟩
  ·
    rw [if_pos (by rfl)]
    refine step_load_at 40 _ rfl ⟨gr, 0, none⟩ rfl (fwL (⟨n0, n1, n2, n3, !be⟩ : Fw)) _ XF.out.drew.at Tryz.underlying40 rfl info_fw ?_
    refine hKc.out _ _ (trivial) (fun hHeld => ?_)
    clear hKc Kc
    try simp only [Act.put, List.setIfInBounds_toArray, List.set_cons_zero, List.set_cons_succ]
    refine wpAnyH_ready (rs := [5, 7]) (by kernel_rfl) (by simp) (AllReadyH.cons (o := ⟨some 25, _, _, _, _, _⟩) rfl (fun Kc hKc => ?_) (AllReadyH.cons (o := ⟨some 27, _, _, _, _, _⟩) rfl (fun Kc hKc => ?_) AllReadyH.nil))
    ·
      go_simp
      refine hKc.out _ _ (trivial) (fun hHeld => ?_)
      clear hKc Kc
      try simp only [Act.put, List.setIfInBounds_toArray, List.set_cons_zero, List.set_cons_succ]
      refine wpAnyH_ready (rs := [7]) (by kernel_rfl) (by simp) (AllReadyH.cons (o := ⟨some 27, _, _, _, _, _⟩) rfl (fun Kc hKc => ?_) AllReadyH.nil)
      go_simp
      have yB : Below wb4.heap.size wb4 ((wb4.alloc (.cells #[.int .i64 n0, .int .i64 n1, .int .u32 n2, .int .i64 n3, .bool (!be)] 40)).drew) := below_drew ((Below.refl _ _).alloc (Nat.le_refl _) _); have HV := Go.Lib.hid (show Bxo ((wb4.alloc (.cells #[.int .i64 n0, .int .i64 n1, .int .u32 n2, .int .i64 n3, .bool (!be)] 40)).drew) wb4.heap.size 40 (fwL (⟨n0, n1, n2, n3, !be⟩ : Fw)) from Bxo.made wb4 40 (fwL (⟨n0, n1, n2, n3, !be⟩ : Fw))); have YB := Go.Lib.hid yB; generalize (wb4.alloc (.cells #[.int .i64 n0, .int .i64 n1, .int .u32 n2, .int .i64 n3, .bool (!be)] 40)).drew = wB at *; have DB := Go.Lib.hid (D10.out.at YB.out); have GB : Hid (Dg B gd w wB) := Go.Lib.hid (G10.out.trans (Dg.ofBelow YB.out D10.out.hs)); have c5B := DB.out.box.cell 6 rfl; have WB := Go.Lib.hid (W10.out.at YB.out); clear yB
      refine hKc.out _ _ (trivial) (fun hHeld => ?_)
      clear hKc Kc
      try simp only [Act.put, List.setIfInBounds_toArray, List.set_cons_zero, List.set_cons_succ]
      refine wpAnyH_ready (rs := [8]) (by kernel_rfl) (by simp) (AllReadyH.cons (o := ⟨some 28, _, _, _, _, _⟩) rfl (fun Kc hKc => ?_) AllReadyH.nil)
      rw [if_pos (by rfl)]
      refine step_append_rdK _ _ 25 rfl B 40 i0_ _ 5 40 Tryz.underlying25 hi_ hz0 hz1 hz2 rfl (by omega) (.slice p.A3 c.fwds.length p.c3) c.fwds.length (c.fwds.flatMap Fw.L) rfl DB.out.r3 (some ⟨wb4.heap.size, 0, none⟩) 1 1 (fwL (⟨n0, n1, n2, n3, !be⟩ : Fw)) rfl rfl (fun e => by cases e) (.inr ⟨_, rfl, HV.out.at⟩) (by simp [Value.oneCell']) (by unfold maxLen; omega) (by omega) DB.out.hs ?_; intro v8 w8 ho8 hg8 ha8; obtain ⟨A8, c8, rfl⟩ := own_slice ho8; simp only [ownBlock_blk] at hg8 ha8; obtain ⟨hb8, dg8, fin8⟩ := DB.out.app3 (x := (⟨n0, n1, n2, n3, !be⟩ : Fw)) hr2 ho8 hg8 ha8; have B8 := Go.Lib.hid hb8; have G8 := Go.Lib.hid (GB.out.trans dg8); have F8 := Go.Lib.hid fin8; have W8 : Hid (∃ A k, Bxo w8 gw 85 (wsL A (l.tail.tail.tail.tail.tail).length k ((((((false) || !b0) || !b1) || !b2) || !b3) || (!be && !(pq))))) := Go.Lib.hid (by obtain ⟨A, k, h1, _, _⟩ := WB.out.is; exact ⟨A, k, h1.grown hg8 HNR.out.a3⟩); clear ho8 hg8 ha8 hb8 dg8 fin8
      refine hKc.out _ _ (trivial) (fun hHeld => ?_)
      clear hKc Kc
      try simp only [Act.put, List.setIfInBounds_toArray, List.set_cons_zero, List.set_cons_succ]
      refine wpAnyH_take (i := 9) (oi := ⟨some 29, _, _, _, _, _⟩) (v := ?_) rfl (by kernel_rfl) (by kernel_rfl) (by kernel_rfl) (fun _ _ _ h => h) (Or.inl ⟨by rfl, ?_⟩) (by assumption) ?_
      rotate_left
      · intro w hSw; (try dsimp only at hSw); go_simp; (try with_reducible rfl)
      try simp only [Act.put, List.setIfInBounds_toArray, List.set_cons_zero, List.set_cons_succ]
      refine wpAnyH_take (i := 10) (oi := ⟨some 30, _, _, _, _, _⟩) (v := ?_) rfl (by kernel_rfl) (by kernel_rfl) (by kernel_rfl) (fun _ _ _ h => h) (Or.inl ⟨by rfl, ?_⟩) (by assumption) ?_
      rotate_left
      · intro w hSw; (try dsimp only at hSw); go_simp; (try with_reducible rfl)
      try simp only [Act.put, List.setIfInBounds_toArray, List.set_cons_zero, List.set_cons_succ]
      refine wpAnyH_take (i := 11) (oi := ⟨some 31, _, _, _, _, _⟩) (v := ?_) rfl (by kernel_rfl) (by kernel_rfl) (by kernel_rfl) (fun _ _ _ h => h) (Or.inl ⟨by rfl, ?_⟩) (by assumption) ?_
      rotate_left
      · intro w hSw; (try dsimp only at hSw); go_simp; (try with_reducible rfl)
      try simp only [Act.put, List.setIfInBounds_toArray, List.set_cons_zero, List.set_cons_succ]
      refine wpAnyH_ready (rs := [12]) (by kernel_rfl) (by simp) (AllReadyH.cons (o := ⟨none, _, _, _, _, _⟩) rfl (fun Kc hKc => ?_) AllReadyH.nil)
      rw [if_pos (by rfl)]
      refine step_store_any 25 _ _ rfl gd 6 66 _ [.slice A8 (c.fwds.length + 1) c8] _ rfl rfl rfl B8.out info_sl3 (by show 6 + 1 ≤ 10; omega) (by intro u hu; rw [List.mem_singleton.1 hu]; rfl) ?_; intro w9 hb9 ho9; have HB9 := Go.Lib.hid hb9; have HO9 := Go.Lib.hid ho9; clear hb9 ho9
      refine hKc.out _ _ (trivial) (fun hHeld => ?_)
      clear hKc Kc
      try simp only [Act.put, List.setIfInBounds_toArray, List.set_cons_zero, List.set_cons_succ]
      refine wpAnyH_done (by kernel_rfl) ?_ _
      have e9 : Bxo w9 gd 66 (cfL { c with fwds := c.fwds ++ [(⟨n0, n1, n2, n3, !be⟩ : Fw)] } { p with A3 := A8, c3 := c8 }) := by
        have := HB9.out
        have e : (c.fwds ++ [(⟨n0, n1, n2, n3, !be⟩ : Fw)]).length = c.fwds.length + 1 := by simp
        rw [show cfL { c with fwds := c.fwds ++ [(⟨n0, n1, n2, n3, !be⟩ : Fw)] } { p with A3 := A8, c3 := c8 } = spl (cfL c p) 6 [.slice A8 (c.fwds ++ [(⟨n0, n1, n2, n3, !be⟩ : Fw)]).length c8] from rfl, e]
        exact this
      have d9 := F8.out w9 HO9.out e9
      have g9 := G8.out.trans (Dg.ofOnly HO9.out ⟨_, _, B8.out⟩)
      obtain ⟨A, k, w8⟩ := W8.out
      have w9' := w8.only HO9.out (Ne.symm hne)
      go_end0
      exact ⟨rfl, ⟨_, _, A, _, k, _, d9, w9', HP.out⟩, g9, HTB.out.dg g9 H7.out hlt⟩
    ·
      go_simp
      have yB : Below wb4.heap.size wb4 ((wb4.alloc (.cells #[.int .i64 n0, .int .i64 n1, .int .u32 n2, .int .i64 n3, .bool (!be)] 40)).drew) := below_drew ((Below.refl _ _).alloc (Nat.le_refl _) _); have HV := Go.Lib.hid (show Bxo ((wb4.alloc (.cells #[.int .i64 n0, .int .i64 n1, .int .u32 n2, .int .i64 n3, .bool (!be)] 40)).drew) wb4.heap.size 40 (fwL (⟨n0, n1, n2, n3, !be⟩ : Fw)) from Bxo.made wb4 40 (fwL (⟨n0, n1, n2, n3, !be⟩ : Fw))); have YB := Go.Lib.hid yB; generalize (wb4.alloc (.cells #[.int .i64 n0, .int .i64 n1, .int .u32 n2, .int .i64 n3, .bool (!be)] 40)).drew = wB at *; have DB := Go.Lib.hid (D10.out.at YB.out); have GB : Hid (Dg B gd w wB) := Go.Lib.hid (G10.out.trans (Dg.ofBelow YB.out D10.out.hs)); have c5B := DB.out.box.cell 6 rfl; have WB := Go.Lib.hid (W10.out.at YB.out); clear yB
      refine hKc.out _ _ (trivial) (fun hHeld => ?_)
      clear hKc Kc
      try simp only [Act.put, List.setIfInBounds_toArray, List.set_cons_zero, List.set_cons_succ]
      refine wpAnyH_ready (rs := [5]) (by kernel_rfl) (by simp) (AllReadyH.cons (o := ⟨some 25, _, _, _, _, _⟩) rfl (fun Kc hKc => ?_) AllReadyH.nil)
      go_simp
      refine hKc.out _ _ (trivial) (fun hHeld => ?_)
      clear hKc Kc
      try simp only [Act.put, List.setIfInBounds_toArray, List.set_cons_zero, List.set_cons_succ]
      refine wpAnyH_ready (rs := [8]) (by kernel_rfl) (by simp) (AllReadyH.cons (o := ⟨some 28, _, _, _, _, _⟩) rfl (fun Kc hKc => ?_) AllReadyH.nil)
      rw [if_pos (by rfl)]
      refine step_append_rdK _ _ 25 rfl B 40 i0_ _ 5 40 Tryz.underlying25 hi_ hz0 hz1 hz2 rfl (by omega) (.slice p.A3 c.fwds.length p.c3) c.fwds.length (c.fwds.flatMap Fw.L) rfl DB.out.r3 (some ⟨wb4.heap.size, 0, none⟩) 1 1 (fwL (⟨n0, n1, n2, n3, !be⟩ : Fw)) rfl rfl (fun e => by cases e) (.inr ⟨_, rfl, HV.out.at⟩) (by simp [Value.oneCell']) (by unfold maxLen; omega) (by omega) DB.out.hs ?_; intro v8 w8 ho8 hg8 ha8; obtain ⟨A8, c8, rfl⟩ := own_slice ho8; simp only [ownBlock_blk] at hg8 ha8; obtain ⟨hb8, dg8, fin8⟩ := DB.out.app3 (x := (⟨n0, n1, n2, n3, !be⟩ : Fw)) hr2 ho8 hg8 ha8; have B8 := Go.Lib.hid hb8; have G8 := Go.Lib.hid (GB.out.trans dg8); have F8 := Go.Lib.hid fin8; have W8 : Hid (∃ A k, Bxo w8 gw 85 (wsL A (l.tail.tail.tail.tail.tail).length k ((((((false) || !b0) || !b1) || !b2) || !b3) || (!be && !(pq))))) := Go.Lib.hid (by obtain ⟨A, k, h1, _, _⟩ := WB.out.is; exact ⟨A, k, h1.grown hg8 HNR.out.a3⟩); clear ho8 hg8 ha8 hb8 dg8 fin8
      refine hKc.out _ _ (trivial) (fun hHeld => ?_)
      clear hKc Kc
      try simp only [Act.put, List.setIfInBounds_toArray, List.set_cons_zero, List.set_cons_succ]
      refine wpAnyH_take (i := 9) (oi := ⟨some 29, _, _, _, _, _⟩) (v := ?_) rfl (by kernel_rfl) (by kernel_rfl) (by kernel_rfl) (fun _ _ _ h => h) (Or.inl ⟨by rfl, ?_⟩) (by assumption) ?_
      rotate_left
      · intro w hSw; (try dsimp only at hSw); go_simp; (try with_reducible rfl)
      try simp only [Act.put, List.setIfInBounds_toArray, List.set_cons_zero, List.set_cons_succ]
      refine wpAnyH_take (i := 10) (oi := ⟨some 30, _, _, _, _, _⟩) (v := ?_) rfl (by kernel_rfl) (by kernel_rfl) (by kernel_rfl) (fun _ _ _ h => h) (Or.inl ⟨by rfl, ?_⟩) (by assumption) ?_
      rotate_left
      · intro w hSw; (try dsimp only at hSw); go_simp; (try with_reducible rfl)
      try simp only [Act.put, List.setIfInBounds_toArray, List.set_cons_zero, List.set_cons_succ]
      refine wpAnyH_take (i := 11) (oi := ⟨some 31, _, _, _, _, _⟩) (v := ?_) rfl (by kernel_rfl) (by kernel_rfl) (by kernel_rfl) (fun _ _ _ h => h) (Or.inl ⟨by rfl, ?_⟩) (by assumption) ?_
      rotate_left
      · intro w hSw; (try dsimp only at hSw); go_simp; (try with_reducible rfl)
      try simp only [Act.put, List.setIfInBounds_toArray, List.set_cons_zero, List.set_cons_succ]
      refine wpAnyH_ready (rs := [12]) (by kernel_rfl) (by simp) (AllReadyH.cons (o := ⟨none, _, _, _, _, _⟩) rfl (fun Kc hKc => ?_) AllReadyH.nil)
      rw [if_pos (by rfl)]
      refine step_store_any 25 _ _ rfl gd 6 66 _ [.slice A8 (c.fwds.length + 1) c8] _ rfl rfl rfl B8.out info_sl3 (by show 6 + 1 ≤ 10; omega) (by intro u hu; rw [List.mem_singleton.1 hu]; rfl) ?_; intro w9 hb9 ho9; have HB9 := Go.Lib.hid hb9; have HO9 := Go.Lib.hid ho9; clear hb9 ho9
      refine hKc.out _ _ (trivial) (fun hHeld => ?_)
      clear hKc Kc
      try simp only [Act.put, List.setIfInBounds_toArray, List.set_cons_zero, List.set_cons_succ]
      refine wpAnyH_done (by kernel_rfl) ?_ _
      have e9 : Bxo w9 gd 66 (cfL { c with fwds := c.fwds ++ [(⟨n0, n1, n2, n3, !be⟩ : Fw)] } { p with A3 := A8, c3 := c8 }) := by
        have := HB9.out
        have e : (c.fwds ++ [(⟨n0, n1, n2, n3, !be⟩ : Fw)]).length = c.fwds.length + 1 := by simp
        rw [show cfL { c with fwds := c.fwds ++ [(⟨n0, n1, n2, n3, !be⟩ : Fw)] } { p with A3 := A8, c3 := c8 } = spl (cfL c p) 6 [.slice A8 (c.fwds ++ [(⟨n0, n1, n2, n3, !be⟩ : Fw)]).length c8] from rfl, e]
        exact this
      have d9 := F8.out w9 HO9.out e9
      have g9 := G8.out.trans (Dg.ofOnly HO9.out ⟨_, _, B8.out⟩)
      obtain ⟨A, k, w8⟩ := W8.out
      have w9' := w8.only HO9.out (Ne.symm hne)
      go_end0
      exact ⟨rfl, ⟨_, _, A, _, k, _, d9, w9', HP.out⟩, g9, HTB.out.dg g9 H7.out hlt⟩
end Go.Proofs.YtoghcefamoefpaaGreatDoor

/- The words of a line, as the library finds them. -/
namespace Go.Proofs.YtoghcefamoefpaaGreatDoor
set_option linter.unusedVariables false

def fld : Tx → Tx → List Tx
  | cur, [] => if cur = [] then [] else [cur]
  | cur, b :: l => if b = 32 then (if cur = [] then fld [] l else cur :: fld [] l) else fld (cur ++ [b]) l
theorem fld_words : ∀ (l cur : Tx), (32 : UInt8) ∉ cur → fld cur l = wordsB (cur ++ l)
  | [], cur, h => by
    unfold fld
    rw [List.append_nil]
    by_cases hc : cur = []
    · rw [if_pos hc, hc]; rfl
    · rw [if_neg hc, words_one ⟨hc, h⟩]
  | b :: l, cur, h => by
    unfold fld
    by_cases hb : b = 32
    · rw [if_pos hb, hb, fld_words l [] (by simp), List.nil_append]
      by_cases hc : cur = []
      · rw [if_pos hc, hc, List.nil_append, words_blank]
      · rw [if_neg hc, words_cons ⟨hc, h⟩]
    · rw [if_neg hb, fld_words l (cur ++ [b]) (by simp [h, Ne.symm hb])]
      simp
theorem fld_run : ∀ (m cur l : Tx), (32 : UInt8) ∉ m → fld cur (m ++ l) = fld (cur ++ m) l
  | [], cur, l, _ => by simp
  | b :: m, cur, l, h => by
    have hb : b ≠ 32 := fun e => h (by simp [e])
    show fld cur (b :: (m ++ l)) = _
    rw [fld, if_neg hb, fld_run m (cur ++ [b]) l (fun q => h (by simp [q]))]
    simp
theorem decN32 (n b0 b1 b2 b3 : Nat) (hn : 1 ≤ n) : ((Lib.decodeN n b0 b1 b2 b3).1 = 32 ↔ b0 = 32) ∧ 1 ≤ (Lib.decodeN n b0 b1 b2 b3).2 ∧ (Lib.decodeN n b0 b1 b2 b3).2 ≤ n ∧ (b0 = 32 → (Lib.decodeN n b0 b1 b2 b3).2 = 1) ∧ (Lib.decodeN n b0 b1 b2 b3).2 ≤ 4 ∧ (1 < (Lib.decodeN n b0 b1 b2 b3).2 → b1 ≠ 32) ∧ (2 < (Lib.decodeN n b0 b1 b2 b3).2 → b2 ≠ 32) ∧ (3 < (Lib.decodeN n b0 b1 b2 b3).2 → b3 ≠ 32) := by
  unfold Lib.decodeN
  repeat' split
  all_goals (dsimp only; omega)
theorem dec32 (s : ByteArray) (pos : Nat) (h : pos < s.size) : ((Utf8.decode s pos).1 == 32) = ((s.get! pos).toNat == 32) ∧ 1 ≤ (Utf8.decode s pos).2 ∧ pos + (Utf8.decode s pos).2 ≤ s.size ∧ ((s.get! pos).toNat = 32 → (Utf8.decode s pos).2 = 1) ∧ ((s.get! pos).toNat ≠ 32 → ∀ j, j < (Utf8.decode s pos).2 → (s.get! (pos + j)).toNat ≠ 32) := by
  rw [Lib.decode_at]
  obtain ⟨h1, h2, h3, h4, h5, h6, h7, h8⟩ := decN32 (s.size - pos) (s.get! pos).toNat (s.get! (pos + 1)).toNat (s.get! (pos + 2)).toNat (s.get! (pos + 3)).toNat (by omega)
  refine ⟨?_, h2, by omega, h4, fun hn j hj => ?_⟩
  · rw [Bool.eq_iff_iff, beq_iff_eq, beq_iff_eq]; exact h1
  · have : j = 0 ∨ j = 1 ∨ j = 2 ∨ j = 3 := by omega
    rcases this with rfl | rfl | rfl | rfl
    · exact hn
    · exact h6 hj
    · exact h7 hj
    · exact h8 hj
theorem get_at (s : ByteArray) (i : Nat) (h : i < s.size) : s.data.toList[i]? = some (s.get! i) := by
  have h' : i < s.data.size := h
  rw [Array.getElem?_toList, Array.getElem?_eq_getElem h']
  show some s.data[i] = some (s.data[i]!)
  rw [getElem!_pos s.data i h']
abbrev isB : Nat → Bool := fun r => r == 32
open Go.Lib in
theorem spans_words (s : ByteArray) : ∀ (f pos : Nat) (st : Option Nat) (acc : List (Nat × Nat)), s.size ≤ pos + f → pos ≤ s.size → (∀ a, st = some a → a < pos) →
    acc.map (fun p => pieceU s.data.toList p.1 p.2) ++ fld (openPiece s.data.toList st pos) (s.data.toList.drop pos) = (closeSpans s (spansFromP isB s f pos st acc)).map (fun p => pieceU s.data.toList p.1 p.2)
  | 0, pos, st, acc, h, hp, hst => by
    obtain rfl : pos = s.size := by omega
    have hd : s.data.toList.drop s.size = [] := List.drop_eq_nil_of_le (by rw [← size_eq]; exact Nat.le_refl _)
    rw [hd]
    cases st with
    | none => simp [spansFromP, closeSpans, openPiece, fld]
    | some a =>
      have := pieceU_ne s.data.toList a s.size (hst a rfl) (by rw [← size_eq]; exact Nat.le_refl _)
      simp [spansFromP, closeSpans, openPiece, this, fld]
  | f + 1, pos, st, acc, h, hp, hst => by
    by_cases hlt : pos < s.size
    · obtain ⟨e1, e2, e3, e4, e5⟩ := dec32 s pos hlt
      have hg := get_at s pos hlt
      have hsz := size_eq s
      simp only [spansFromP, if_pos hlt]
      by_cases hb : (s.get! pos).toNat = 32
      · have hw := e4 hb
        have hb' : s.get! pos = 32 := UInt8.toNat_inj.1 hb
        have hd : s.data.toList.drop pos = 32 :: s.data.toList.drop (pos + 1) := by
          rw [List.drop_eq_getElem_cons (by omega : pos < s.data.toList.length)]
          congr 1
          rw [List.getElem?_eq_getElem (by omega : pos < s.data.toList.length)] at hg
          rw [← hb']; exact Option.some.inj hg
        rw [show isB (Utf8.decode s pos).1 = true by show ((Utf8.decode s pos).1 == 32) = true; rw [e1, hb]; rfl, if_pos rfl, hw, hd]
        cases st with
        | none =>
          have ih := spans_words s f (pos + 1) none acc (by omega) (by omega) (fun a h => by cases h)
          rw [← ih]
          simp [openPiece, fld]
        | some a =>
          have hpn := pieceU_ne s.data.toList a pos (hst a rfl) (by rw [← size_eq]; omega)
          have ih := spans_words s f (pos + 1) none (acc ++ [(a, pos)]) (by omega) (by omega) (fun a h => by cases h)
          rw [← ih]
          simp [openPiece, fld, hpn]
      · have hm : (32 : UInt8) ∉ (s.data.toList.drop pos).take (Utf8.decode s pos).2 := fun hmem => by
          obtain ⟨j, hj⟩ := List.getElem?_of_mem hmem
          rw [List.getElem?_take] at hj
          split at hj
          · next hjw =>
            rw [List.getElem?_drop, get_at s (pos + j) (by omega)] at hj
            exact e5 hb j hjw (by rw [Option.some.inj hj]; rfl)
          · cases hj
        have hd : s.data.toList.drop pos = (s.data.toList.drop pos).take (Utf8.decode s pos).2 ++ s.data.toList.drop (pos + (Utf8.decode s pos).2) := by
          rw [← List.drop_drop, List.take_append_drop]
        rw [show isB (Utf8.decode s pos).1 = false by show ((Utf8.decode s pos).1 == 32) = false; rw [e1]; simpa using hb, if_neg (by simp), hd, fld_run _ _ _ hm]
        cases st with
        | none =>
          have ih := spans_words s f (pos + (Utf8.decode s pos).2) (some pos) acc (by omega) e3 (fun a h => by cases h; omega)
          have e : ([] : List UInt8) ++ (s.data.toList.drop pos).take (Utf8.decode s pos).2 = pieceU s.data.toList pos (pos + (Utf8.decode s pos).2) := by
            unfold pieceU
            rw [List.nil_append, Nat.add_sub_cancel_left]
          simp only [openPiece] at ih ⊢
          rw [e]
          exact ih
        | some a =>
          have ih := spans_words s f (pos + (Utf8.decode s pos).2) (some a) acc (by omega) e3 (fun b h => by cases h; have := hst a rfl; omega)
          simp only [openPiece] at ih ⊢
          rw [pieceU_grow _ _ _ _ (Nat.le_of_lt (hst a rfl))]
          exact ih
    · obtain rfl : pos = s.size := by omega
      have hd : s.data.toList.drop s.size = [] := List.drop_eq_nil_of_le (by rw [← size_eq]; exact Nat.le_refl _)
      rw [hd, spansFromP_end _ s _ _ _ _ hlt]
      cases st with
      | none => simp [closeSpans, openPiece, fld]
      | some a =>
        have := pieceU_ne s.data.toList a s.size (hst a rfl) (by rw [← size_eq]; exact Nat.le_refl _)
        simp [closeSpans, openPiece, this, fld]
theorem fields_words (s : ByteArray) : (Lib.goFieldsP isB s).map (·.data.toList) = wordsB s.data.toList := by
  have h := spans_words s s.size 0 none [] (by omega) (Nat.zero_le _) (fun a h => by cases h)
  simp only [List.map_nil, List.nil_append, Lib.openPiece, List.drop_zero] at h
  rw [fld_words _ _ (by simp), List.nil_append] at h
  rw [h]
  unfold Lib.goFieldsP Lib.spansOfP
  rw [List.map_map]
  apply List.map_congr_left
  intro p _
  show (s.extract p.1 p.2).data.toList = _
  rw [Lib.extract_data]
  rfl
end Go.Proofs.YtoghcefamoefpaaGreatDoor

/- The landed conf: which reader takes a line. -/
namespace Go.Proofs.YtoghcefamoefpaaGreatDoor
open Go.ChangeShapes Go.WideShapes Go.ChangeAt Go.RowKit
set_option linter.unusedVariables false
set_option linter.unusedSimpArgs false

abbrev routeB15 : ByteArray := { data := #[114, 111, 117, 116, 101] }
abbrev ruleB15 : ByteArray := { data := #[114, 117, 108, 101] }
abbrev outsideB15 : ByteArray := { data := #[111, 117, 116, 115, 105, 100, 101] }
abbrev publicB15 : ByteArray := { data := #[112, 117, 98, 108, 105, 99] }
abbrev forwardB15 : ByteArray := { data := #[102, 111, 114, 119, 97, 114, 100] }
abbrev lifeB15 : ByteArray := { data := #[108, 105, 102, 101] }
abbrev budgetB15 : ByteArray := { data := #[98, 117, 100, 103, 101, 116] }
theorem kindP_not {s x : Tx} {r : Option (Cf → List Tx → Option Cf)} {P : Cf → List Tx → Option Cf} (h : ¬ s = x) : (if s == x then some P else r) = r := if_neg (fun e => h (eq_of_beq e))
/-- which reader a first word has. -/
def KindOut (s : ByteArray) : Prop := (kindP (txB s) = none ∧ ∀ w, Calls Tryz.prog 38 #[.string s] w fun e w' => e = .returned .nilFunc ∧ w' = w) ∨
  ∃ (f : Nat) (P : Cf → List Tx → Option Cf), kindP (txB s) = some P ∧ ReaderS f P ∧ (∀ args w, (callFunc f args).run Tryz.prog w = .ok (.enter f args) w) ∧ ∀ w, Calls Tryz.prog 38 #[.string s] w fun e w' => e = .returned (.func (.func f) #[] #[]) ∧ w' = w
set_option maxRecDepth 100000 in
set_option maxHeartbeats 4000000 in
theorem ckind15 (s : ByteArray) : KindOut s := by
  by_cases h0 : s = routeB15
  · subst h0
    refine .inr ⟨52, routeP, rfl, croute15, fun args w => enters_of Tryz.func52 (by kernel_rfl) rfl args w, fun w => ?_⟩
    go_enter Tryz.func38, Tryz.ntmps38
    go_wp2_with fail
    go_ret
    exact ⟨rfl, rfl⟩
  by_cases h1 : s = ruleB15
  · subst h1
    refine .inr ⟨53, ruleP, rfl, crule15, fun args w => enters_of Tryz.func53 (by kernel_rfl) rfl args w, fun w => ?_⟩
    go_enter Tryz.func38, Tryz.ntmps38
    go_wp2_with fail
    go_ret
    exact ⟨rfl, rfl⟩
  by_cases h2 : s = outsideB15
  · subst h2
    refine .inr ⟨54, outsideP, rfl, coutside15.s, fun args w => enters_of Tryz.func54 (by kernel_rfl) rfl args w, fun w => ?_⟩
    go_enter Tryz.func38, Tryz.ntmps38
    go_wp2_with fail
    go_ret
    exact ⟨rfl, rfl⟩
  by_cases h3 : s = publicB15
  · subst h3
    refine .inr ⟨55, publicP, rfl, cpublic15.s, fun args w => enters_of Tryz.func55 (by kernel_rfl) rfl args w, fun w => ?_⟩
    go_enter Tryz.func38, Tryz.ntmps38
    go_wp2_with fail
    go_ret
    exact ⟨rfl, rfl⟩
  by_cases h4 : s = forwardB15
  · subst h4
    refine .inr ⟨56, forwardP, rfl, cforward15, fun args w => enters_of Tryz.func56 (by kernel_rfl) rfl args w, fun w => ?_⟩
    go_enter Tryz.func38, Tryz.ntmps38
    go_wp2_with fail
    go_ret
    exact ⟨rfl, rfl⟩
  by_cases h5 : s = lifeB15
  · subst h5
    refine .inr ⟨57, lifeP, rfl, clife15.s, fun args w => enters_of Tryz.func57 (by kernel_rfl) rfl args w, fun w => ?_⟩
    go_enter Tryz.func38, Tryz.ntmps38
    go_wp2_with fail
    go_ret
    exact ⟨rfl, rfl⟩
  by_cases h6 : s = budgetB15
  · subst h6
    refine .inr ⟨58, budgetP, rfl, cbudget15.s, fun args w => enters_of Tryz.func58 (by kernel_rfl) rfl args w, fun w => ?_⟩
    go_enter Tryz.func38, Tryz.ntmps38
    go_wp2_with fail
    go_ret
    exact ⟨rfl, rfl⟩
  have t0 : (s.toList == [114, 111, 117, 116, 101]) = false := ne_lit h0 rfl
  have t1 : (s.toList == [114, 117, 108, 101]) = false := ne_lit h1 rfl
  have t2 : (s.toList == [111, 117, 116, 115, 105, 100, 101]) = false := ne_lit h2 rfl
  have t3 : (s.toList == [112, 117, 98, 108, 105, 99]) = false := ne_lit h3 rfl
  have t4 : (s.toList == [102, 111, 114, 119, 97, 114, 100]) = false := ne_lit h4 rfl
  have t5 : (s.toList == [108, 105, 102, 101]) = false := ne_lit h5 rfl
  have t6 : (s.toList == [98, 117, 100, 103, 101, 116]) = false := ne_lit h6 rfl
  left
  refine ⟨?_, fun w => ?_⟩
  · unfold kindP
    rw [if_neg (show ¬ (txB s == kRoute) = true from fun e => h0 (txB_inj (eq_of_beq e))), if_neg (show ¬ (txB s == kRule) = true from fun e => h1 (txB_inj (eq_of_beq e))), if_neg (show ¬ (txB s == kOutside) = true from fun e => h2 (txB_inj (eq_of_beq e))), if_neg (show ¬ (txB s == kPublic) = true from fun e => h3 (txB_inj (eq_of_beq e))), if_neg (show ¬ (txB s == kForward) = true from fun e => h4 (txB_inj (eq_of_beq e))), if_neg (show ¬ (txB s == kLife) = true from fun e => h5 (txB_inj (eq_of_beq e))), if_neg (show ¬ (txB s == kBudget) = true from fun e => h6 (txB_inj (eq_of_beq e)))]
  · clear h0 h1 h2 h3 h4 h5 h6
    go_enter Tryz.func38, Tryz.ntmps38
    go_wp2_with fail
    go_ret
    exact ⟨rfl, rfl⟩
end Go.Proofs.YtoghcefamoefpaaGreatDoor

/- The landed conf: a line. -/
namespace Go.Proofs.YtoghcefamoefpaaGreatDoor
open Go.ChangeShapes Go.WideShapes Go.ChangeAt Go.RowKit
set_option linter.unusedVariables false
set_option linter.unusedSimpArgs false

theorem eqIn_func {P : Program} (w : World) (d : Nat) (t : TypeId) {ps rs : Array TypeId} {v : Bool} (f : Fn) (a b : Array Value) (h : P.underlying t = some (.func ps rs v)) : (Op.equalIn (d + 1) t (.func f a b) .nilFunc).run P w = .ok false w := by
  simp [Op.equalIn, run_underlying h]
theorem eqIn_nilf {P : Program} (w : World) (d : Nat) (t : TypeId) {ps rs : Array TypeId} {v : Bool} (h : P.underlying t = some (.func ps rs v)) : (Op.equalIn (d + 1) t .nilFunc .nilFunc).run P w = .ok true w := by
  simp [Op.equalIn, run_underlying h]
theorem eql_func {P : Program} (w : World) (t : TypeId) {ps rs : Array TypeId} {v : Bool} (f : Fn) (a b : Array Value) (h : P.underlying t = some (.func ps rs v)) : (binOp .eql t (.func f a b) .nilFunc).run P w = .ok (.bool false) w := by
  have h' : (Op.equal t (.func f a b) .nilFunc).run P w = .ok false w := eqIn_func w 9999 t f a b h
  simp only [binOp]
  simp [h']
theorem eql_nilf {P : Program} (w : World) (t : TypeId) {ps rs : Array TypeId} {v : Bool} (h : P.underlying t = some (.func ps rs v)) : (binOp .eql t .nilFunc .nilFunc).run P w = .ok (.bool true) w := by
  have h' : (Op.equal t .nilFunc .nilFunc).run P w = .ok true w := eqIn_nilf w 9999 t h
  simp only [binOp]
  simp [h']
theorem fn_nil15 (f : Nat) (w : World) : (binOp .eql 81 (.func (.func f) #[] #[]) .nilFunc).run Tryz.prog w = .ok (.bool false) w := eql_func w 81 _ _ _ Tryz.underlying81
theorem nil_nil15 (w : World) : (binOp .eql 81 .nilFunc .nilFunc).run Tryz.prog w = .ok (.bool true) w := eql_nilf w 81 Tryz.underlying81
set_option maxRecDepth 100000 in
theorem cblank15 (w : World) : PredAtRunes Tryz.prog 36 #[] isB w := by
  intro W x hx _
  unfold FnGives
  by_cases h : x = 32
  · subst h
    go_enter Tryz.func36, Tryz.ntmps36
    go_wp2_with fail
    go_ret
    exact ⟨rfl, 0, rfl⟩
  · have t1 : ((x : Int) == 32) = false := by simp; omega
    have HB : Hid (isB x = false) := Go.Lib.hid (by simpa using h)
    go_enter Tryz.func36, Tryz.ntmps36
    go_wp2_with fail
    go_ret
    exact ⟨by rw [HB.out]; rfl, 0, rfl⟩
theorem words_len {s x : Tx} (h : x ∈ wordsB s) : x.length ≤ s.length := split_len 32 s x (List.mem_filter.1 h).1
theorem words_ne {s x : Tx} (h : x ∈ wordsB s) : x ≠ [] := by
  have := (List.mem_filter.1 h).2
  simpa using this
theorem cfields15 (s : ByteArray) (hs : s.size ≤ 1000000) (w : World) : Calls Tryz.prog 35 #[.string s, .func (.func 36) #[] #[]] w fun e w' => ∃ (A : Nat) (l : List ByteArray), e = .returned (.slice (some ⟨A, 0, none⟩) l.length l.length) ∧ w.heap.size ≤ A ∧ A < w'.heap.size ∧ StsAt w' l (some ⟨A, 0, none⟩) l.length ∧ l.map txB = wordsB (txB s) ∧ Below w.heap.size w w' := by
  refine (Tryz.strings_FieldsFunc_runes 36 #[] (fun args w => enters_of Tryz.func36 (by kernel_rfl) rfl args w) isB s w (by omega) (cblank15 w)).mono fun e w' ⟨A, he, hA, ho, hb⟩ => ?_
  have hcc := own_cap ho
  unfold maxLen at hcc
  exact ⟨A, Lib.goFieldsP isB s, he, hA, World.ownsRow.lt ho A rfl |>.2, ⟨Nat.le_refl _, hcc.2, (fun e => by cases e), own_rd ho⟩, fields_words s, hb⟩
/-- a line, read. -/
structure RlOut (B gd : Nat) (c : Cf) (s : Tx) (w : World) (e : Ending) (w' : World) : Prop where
  is : ∃ k : Int, e = .returned (.int .i64 k) ∧ (256 < s.length → k = 12) ∧ (s.length ≤ 256 → (∀ d, lineP c s = .ok d → k = 0 ∧ ∃ p', DrAt w' B gd d p') ∧ (∀ q, lineP c s = .error q → k = q))
  dg : Dg B gd w w'
  tb : Tb w'
theorem lineW_nil {c : Cf} {s : Tx} (h : wordsB s = []) : lineP c s = .ok c := by unfold lineP; rw [h]
theorem line_hash {c : Cf} {s x : Tx} {r : List Tx} (h : wordsB s = x :: r) (hx : (x.head? == some 35) = true) : lineP c s = .ok c := by unfold lineP; rw [h]; dsimp only; rw [hx, if_pos rfl]
theorem line_name {c : Cf} {s x : Tx} {r : List Tx} (h : wordsB s = x :: r) (hx : (x.head? == some 35) = false) (hk : kindP x = none) : lineP c s = .error 13 := by unfold lineP; rw [h]; dsimp only; rw [hx, if_neg (by simp), hk]
theorem line_form {c : Cf} {s x : Tx} {r : List Tx} {P : Cf → List Tx → Option Cf} (h : wordsB s = x :: r) (hx : (x.head? == some 35) = false) (hk : kindP x = some P) (hp : P c r = none) : lineP c s = .error 11 := by unfold lineP; rw [h]; dsimp only; rw [hx, if_neg (by simp), hk]; dsimp only; rw [hp]
theorem line_good {c d : Cf} {s x : Tx} {r : List Tx} {P : Cf → List Tx → Option Cf} (h : wordsB s = x :: r) (hx : (x.head? == some 35) = false) (hk : kindP x = some P) (hp : P c r = some d) : lineP c s = .ok d := by unfold lineP; rw [h]; dsimp only; rw [hx, if_neg (by simp), hk]; dsimp only; rw [hp]
theorem RlOut.ok {B gd : Nat} {c d : Cf} {s : Tx} {w w' : World} {p' : Cfm} (hs : s.length ≤ 256) (hl : lineP c s = .ok d) (hd : DrAt w' B gd d p') (dg : Dg B gd w w') (tb : Tb w') : RlOut B gd c s w (.returned (.int .i64 0)) w' :=
  ⟨⟨0, rfl, fun h => by omega, fun _ => ⟨(fun d2 h2 => by rw [hl] at h2; injection h2 with h2; subst h2; exact ⟨rfl, p', hd⟩), (fun q h2 => by rw [hl] at h2; cases h2)⟩⟩, dg, tb⟩
theorem RlOut.err {B gd : Nat} {c : Cf} {s : Tx} {w w' : World} {k : Int} (hs : s.length ≤ 256) (hl : lineP c s = .error k) (dg : Dg B gd w w') (tb : Tb w') : RlOut B gd c s w (.returned (.int .i64 k)) w' :=
  ⟨⟨k, rfl, fun h => by omega, fun _ => ⟨(fun d2 h2 => by rw [hl] at h2; cases h2), (fun q h2 => by rw [hl] at h2; injection h2)⟩⟩, dg, tb⟩
theorem hash_pre (x : ByteArray) : Lib.hasPrefix (txB x) [35] = ((txB x).head? == some 35) := by
  unfold Lib.hasPrefix
  cases txB x with
  | nil => rfl
  | cons c r =>
    by_cases h : c = 35
    · subst h; rfl
    · have h1 : ((c :: r).head? == some 35) = false := by simpa using h
      rw [h1]
      simp [List.isPrefixOf, Ne.symm h]
theorem ws_row {w w' : World} {A n : Nat} {x : ByteArray} {r : List ByteArray} (h : StsAt w (x :: r) (some ⟨A, 0, none⟩) n) (y : Below w.heap.size w w') (hn : r.length + 1 = n) : StsAt w' r (some ⟨A, 1, none⟩) (n - 1) := by
  have hcc := h.cap
  have h2 := h.at y
  refine ⟨by omega, by omega, (fun e => by cases e), .inr ⟨_, rfl, fun j u hj => ?_⟩⟩
  rcases h2.rd with h0 | ⟨ad, e, hc⟩
  · simp at h0
  · injection e with e
    subst e
    have := hc (j + 1) u hj
    have e4 : (({ block := A, off := 1 } : Addr).add j) = ({ block := A, off := 0 } : Addr).add (j + 1) := by
      have := add_add ({ block := A, off := 0 } : Addr) 1 j
      rw [Nat.add_comm 1 j] at this
      exact this
    rw [e4]
    exact this
set_option maxRecDepth 100000 in
set_option maxHeartbeats 4000000 in
theorem cread15 (B gd : Nat) (c : Cf) (p : Cfm) (s : ByteArray) (hs : s.size ≤ 1000000) (w : World) (hsz : SzC c 1000) (hd : DrAt w B gd c p) (ht : Tb w) :
    Calls Tryz.prog 22 #[.pointer (some ⟨gd, 0, none⟩), .string s] w fun e w' => RlOut B gd c (txB s) w e w' := by
  have hlt := hd.lt
  have hBw := hd.hs
  have HS := Go.Lib.hid hs
  have HD := Go.Lib.hid hd
  have HT := Go.Lib.hid ht
  have HZ := Go.Lib.hid hsz
  clear hs hd ht hsz
  by_cases h256 : 256 < s.size
  · have t1 : (256 : Int) < (s.size : Int) := by omega
    go_enter Tryz.func22, Tryz.ntmps22
    go_wp2_with fail
    go_ret
    exact ⟨⟨12, rfl, fun _ => rfl, fun h => by rw [txB_len] at h; omega⟩, Dg.refl, HT.out⟩
  have t1 : ¬ (256 : Int) < (s.size : Int) := by omega
  have hs6 : (txB s).length ≤ 256 := by rw [txB_len]; omega
  go_enter Tryz.func22, Tryz.ntmps22
  go_upto_region 4 with (go_at_call 35; refine (cfields15 s HS.out w).mono ?_; rintro e w2 ⟨A, l, rfl, hA, hA2, hl, hm, y2⟩; dsimp only)
  have D2 := Go.Lib.hid (HD.out.at y2)
  have T2 := Go.Lib.hid (HT.out.at y2)
  have G2 : Hid (Dg B gd w w2) := Go.Lib.hid (Dg.ofBelow y2 hBw)
  have HL := Go.Lib.hid hl
  have HM := Go.Lib.hid hm
  have hs2 := y2.size
  clear hl hm y2
  cases l with
  | nil =>
    have hw : wordsB (txB s) = [] := HM.out.symm
    have HW := Go.Lib.hid hw
    clear hw
    go_wp2_with fail
    go_ret
    exact RlOut.ok hs6 (lineW_nil HW.out) D2.out G2.out T2.out
  | cons x r =>
    have hw : wordsB (txB s) = txB x :: r.map txB := HM.out.symm
    have HW := Go.Lib.hid hw
    have HSZ : Hid (∀ y ∈ x :: r, y.size ≤ 1000000) := Go.Lib.hid (fun y hy => by
      have := words_len (s := txB s) (x := txB y) (by rw [← HM.out]; exact List.mem_map_of_mem hy)
      rw [txB_len] at this; omega)
    obtain ⟨hh, hhx⟩ : ∃ b, ((txB x).head? == some 35) = b := ⟨_, rfl⟩
    have HH := Go.Lib.hid hhx
    have HP : Hid (Lib.hasPrefix (txB x) [35] = hh) := Go.Lib.hid (by rw [hash_pre]; exact hhx)
    obtain ⟨n, hn⟩ : ∃ n, (x :: r).length = n := ⟨_, rfl⟩
    have hn2 : r.length + 1 = n := hn
    have c0 : w2.cell? ⟨A, 0, none⟩ = some (.string x) := by
      obtain ⟨ad, e, hc⟩ := HL.out.cell (i := 0) (show 0 < (x :: r).length by simp)
      injection e with e
      subst e
      exact hc w2 (Below.refl _ _)
    have t2 : ¬ ((n : Int) = 0) := by omega
    have t3 : ((n : Int) == 0) = false := by simp; omega
    have t4 : (0 : Int) < (n : Int) := by omega
    have t5 : (1 : Int) ≤ (n : Int) := by omega
    have t6 : (0 : Int) ≤ (n : Int) := by omega
    rw [hn]
    clear hw hhx hn
    cases hh
    · rcases ckind15 x with ⟨hk, hc⟩ | ⟨f, P, hk, hR, hE, hc⟩
      · have HK := Go.Lib.hid hk
        have HC := Go.Lib.hid hc
        have fnn := nil_nil15
        clear hk hc
        go_wp2_with (first
          | (go_at_call 37; refine (cpre15 x { data := #[35] } _ _ HP.out).mono ?_; rintro e w3 ⟨rfl, rfl⟩; dsimp only)
          | (go_at_call 38; refine (HC.out _).mono ?_; rintro e w4 ⟨rfl, rfl⟩; dsimp only))
        go_ret
        exact RlOut.err hs6 (line_name HW.out HH.out HK.out) G2.out T2.out
      · have HK := Go.Lib.hid hk
        have HC := Go.Lib.hid hc
        have HR := Go.Lib.hid hR
        have fnn := fn_nil15 f
        clear hk hc hR
        by_cases h1 : n = 1
        · subst h1
          have hr0 : r.length = 0 := by omega
          go_upto_region 10 with (first
            | (go_at_call 37; refine (cpre15 x { data := #[35] } _ _ HP.out).mono ?_; rintro e w3 ⟨rfl, rfl⟩; dsimp only)
            | (go_at_call 38; refine (HC.out _).mono ?_; rintro e w4 ⟨rfl, rfl⟩; dsimp only))
          have yz : Below w4.heap.size w4 (w4.alloc (.cells #[.slice (some ⟨A, 0, none⟩) 0 0, .bool false] 85)) := (Below.refl _ _).alloc (Nat.le_refl _) _
          have X0 := Bxo.made w4 85 [.slice (some ⟨A, 0, none⟩) 0 0, .bool false]
          have D5 := Go.Lib.hid (D2.out.at yz)
          have G5 : Hid (Dg B gd w (w4.alloc (.cells #[.slice (some ⟨A, 0, none⟩) 0 0, .bool false] 85))) := Go.Lib.hid (G2.out.trans (Dg.ofBelow yz D2.out.hs))
          have NR : Hid (NoRow p w4.heap.size) := Go.Lib.hid (D2.out.norow (Nat.le_refl _))
          have hBg : B ≤ w4.heap.size := D2.out.hs
          have W5 : Hid (WsAt B (w4.alloc (.cells #[.slice (some ⟨A, 0, none⟩) 0 0, .bool false] 85)) w4.heap.size r false) := Go.Lib.hid ⟨⟨some ⟨A, 0, none⟩, 0, (show Bxo _ _ _ (wsL (some ⟨A, 0, none⟩) r.length 0 false) from by rw [hr0]; exact X0), ⟨Nat.le_of_eq (by omega), by omega, (fun e => by cases e), .inl (by have : r = [] := List.eq_nil_of_length_eq_zero (by omega); rw [this]; rfl)⟩, fun ad e => by injection e with e; subst e; exact ⟨hA2, by show B ≤ A; omega⟩⟩, fun y hy => HSZ.out y (by simp [hy]), T2.out.at yz, Nat.lt_trans D2.out.out (Nat.lt_of_lt_of_le hlt D2.out.hs)⟩
          generalize w4.alloc (.cells #[.slice (some ⟨A, 0, none⟩) 0 0, .bool false] 85) = w5 at *
          obtain ⟨gw, hgw⟩ : ∃ g, w4.heap.size = g := ⟨_, rfl⟩
          rw [hgw] at W5 NR hBg ⊢
          clear yz X0 D2 G2 T2
          go_upto_region 11 with (go_at_fn f; refine (HR.out B gd c p gw r w5 HZ.out D5.out W5.out hBg NR.out).mono ?_; rintro e w6 hro; obtain ⟨rfl, ⟨d, p', A6, r6, k6, bad, hd6, hx6, hp6⟩, dg6, tb6⟩ := hro; dsimp only)
          have G6 := Go.Lib.hid (G5.out.trans dg6)
          have D6 := Go.Lib.hid hd6
          have T6 := Go.Lib.hid tb6
          have HP6 := Go.Lib.hid hp6
          have c60 := hx6.cell 0 rfl
          have c61 := hx6.cell 1 rfl
          clear hd6 dg6 tb6 hp6 hx6 W5 D5
          cases bad
          · cases r6 with
            | nil =>
              go_wp2_with fail
              go_ret
              exact RlOut.ok hs6 (line_good HW.out HH.out HK.out HP6.out) D6.out G6.out T6.out
            | cons y r7 =>
              obtain ⟨m, hm⟩ : ∃ m, (y :: r7).length = m := ⟨_, rfl⟩
              have hm2 : r7.length + 1 = m := hm
              have t7 : (0 : Int) < (m : Int) := by omega
              rw [hm] at c60
              clear hm hm2
              go_wp2_with fail
              go_ret
              exact RlOut.err hs6 (line_form HW.out HH.out HK.out HP6.out) G6.out T6.out
          · go_wp2_with fail
            go_ret
            exact RlOut.err hs6 (line_form HW.out HH.out HK.out (by rw [HP6.out]; rfl)) G6.out T6.out
        · have hr1 : ¬ n = 1 := h1
          go_upto_region 10 with (first
            | (go_at_call 37; refine (cpre15 x { data := #[35] } _ _ HP.out).mono ?_; rintro e w3 ⟨rfl, rfl⟩; dsimp only)
            | (go_at_call 38; refine (HC.out _).mono ?_; rintro e w4 ⟨rfl, rfl⟩; dsimp only))
          have yz : Below w4.heap.size w4 (w4.alloc (.cells #[.slice (some ⟨A, 1, none⟩) (n - 1) (n - 1), .bool false] 85)) := (Below.refl _ _).alloc (Nat.le_refl _) _
          have X0 := Bxo.made w4 85 [.slice (some ⟨A, 1, none⟩) (n - 1) (n - 1), .bool false]
          have D5 := Go.Lib.hid (D2.out.at yz)
          have G5 : Hid (Dg B gd w (w4.alloc (.cells #[.slice (some ⟨A, 1, none⟩) (n - 1) (n - 1), .bool false] 85))) := Go.Lib.hid (G2.out.trans (Dg.ofBelow yz D2.out.hs))
          have NR : Hid (NoRow p w4.heap.size) := Go.Lib.hid (D2.out.norow (Nat.le_refl _))
          have hBg : B ≤ w4.heap.size := D2.out.hs
          have W5 : Hid (WsAt B (w4.alloc (.cells #[.slice (some ⟨A, 1, none⟩) (n - 1) (n - 1), .bool false] 85)) w4.heap.size r false) := Go.Lib.hid ⟨⟨some ⟨A, 1, none⟩, n - 1, (show Bxo _ _ _ (wsL (some ⟨A, 1, none⟩) r.length (n - 1) false) from by rw [show r.length = n - 1 by omega]; exact X0), (ws_row (by have := HL.out; rw [show (x :: r).length = n from hn2] at this; exact this) yz hn2), fun ad e => by injection e with e; subst e; exact ⟨hA2, by show B ≤ A; omega⟩⟩, fun y hy => HSZ.out y (by simp [hy]), T2.out.at yz, Nat.lt_trans D2.out.out (Nat.lt_of_lt_of_le hlt D2.out.hs)⟩
          generalize w4.alloc (.cells #[.slice (some ⟨A, 1, none⟩) (n - 1) (n - 1), .bool false] 85) = w5 at *
          obtain ⟨gw, hgw⟩ : ∃ g, w4.heap.size = g := ⟨_, rfl⟩
          rw [hgw] at W5 NR hBg ⊢
          clear yz X0 D2 G2 T2
          go_upto_region 11 with (go_at_fn f; refine (HR.out B gd c p gw r w5 HZ.out D5.out W5.out hBg NR.out).mono ?_; rintro e w6 hro; obtain ⟨rfl, ⟨d, p', A6, r6, k6, bad, hd6, hx6, hp6⟩, dg6, tb6⟩ := hro; dsimp only)
          have G6 := Go.Lib.hid (G5.out.trans dg6)
          have D6 := Go.Lib.hid hd6
          have T6 := Go.Lib.hid tb6
          have HP6 := Go.Lib.hid hp6
          have c60 := hx6.cell 0 rfl
          have c61 := hx6.cell 1 rfl
          clear hd6 dg6 tb6 hp6 hx6 W5 D5
          cases bad
          · cases r6 with
            | nil =>
              go_wp2_with fail
              go_ret
              exact RlOut.ok hs6 (line_good HW.out HH.out HK.out HP6.out) D6.out G6.out T6.out
            | cons y r7 =>
              obtain ⟨m, hm⟩ : ∃ m, (y :: r7).length = m := ⟨_, rfl⟩
              have hm2 : r7.length + 1 = m := hm
              have t7 : (0 : Int) < (m : Int) := by omega
              rw [hm] at c60
              clear hm hm2
              go_wp2_with fail
              go_ret
              exact RlOut.err hs6 (line_form HW.out HH.out HK.out HP6.out) G6.out T6.out
          · go_wp2_with fail
            go_ret
            exact RlOut.err hs6 (line_form HW.out HH.out HK.out (by rw [HP6.out]; rfl)) G6.out T6.out
    · go_wp2_with (go_at_call 37; refine (cpre15 x { data := #[35] } _ _ HP.out).mono ?_; rintro e w3 ⟨rfl, rfl⟩; dsimp only)
      go_ret
      exact RlOut.ok hs6 (line_hash HW.out HH.out) D2.out G2.out T2.out
end Go.Proofs.YtoghcefamoefpaaGreatDoor

/- The landed conf: the lines of a text, one behind the other. -/
namespace Go.Proofs.YtoghcefamoefpaaGreatDoor
open Go.ChangeShapes Go.WideShapes Go.ChangeAt Go.RowKit Go.Shelf
set_option linter.unusedVariables false
set_option linter.unusedSimpArgs false
attribute [local go_sem] Oper.semAt_some

abbrev nlB : ByteArray := { data := #[10] }
set_option maxRecDepth 100000 in
theorem cnew15 (w : World) : Calls Tryz.prog 20 #[] w fun e w' => e = .returned (.pointer (some ⟨w.heap.size, 0, none⟩)) ∧ w' = w.alloc (.cells (cfL cfD cfm0).toArray 66) := by
  go_enter Tryz.func20, Tryz.ntmps20
  go_wp2_with fail
  go_ret
  exact ⟨rfl, rfl⟩
/-- the world with the iterator's three cells. -/
abbrev spW (w : World) (s : ByteArray) : World := ((w.alloc (.cells #[.string s] 9)).alloc (.cells #[.string nlB] 9)).alloc (.cells #[.int .i64 0] 3)
set_option maxRecDepth 100000 in
theorem cseq15 (s : ByteArray) (w : World) : Calls Tryz.prog 21 #[.string s, .string nlB] w fun e w' => e = .returned (.func (.func 48) #[] #[.pointer (some ⟨w.heap.size + 1, 0, none⟩), .pointer (some ⟨w.heap.size, 0, none⟩), .pointer (some ⟨w.heap.size + 2, 0, none⟩)]) ∧ w' = spW w s := by
  go_enter Tryz.func21, Tryz.ntmps21
  go_wp2_with go_in
  go_ret
  exact ⟨rfl, rfl⟩
theorem cix15 (s : ByteArray) (w : World) (i : Int) (hi : Lib.index (txB s) [10] = i) : Calls Tryz.prog 50 #[.string s, .string nlB] w fun e w' => e = .returned (.int .i64 i) ∧ w' = w :=
  (Tryz.strings_Index_one s 10 w).mono fun e w' ⟨he, hw⟩ => ⟨by rw [he, ← hi, Lib.index_one]; rfl, hw⟩
/-- a line that is not too long. -/
abbrev LnT := { x : ByteArray // x.size ≤ 1000000 }
abbrev encL (x : LnT) : Array Value := #[.string x.1]
abbrev lnX (l : List LnT) : List Tx := l.map fun x => txB x.1
abbrev KpS (b : Nat) (W W' : World) : Prop := W'.heap[b]? = W.heap[b]? ∧ W'.heap[b + 1]? = W.heap[b + 1]? ∧ W'.heap[b + 2]? = W.heap[b + 2]?
def curLen (b : Nat) (W : World) : Nat := match W.cell? ⟨b, 0, none⟩ with
  | some (.string x) => x.size
  | _ => 0
theorem curLen_eq {b : Nat} {W : World} {x : ByteArray} {ty : TypeId} (h : Bxo W b ty [.string x]) : curLen b W = x.size := by
  unfold curLen
  rw [h.cell 0 rfl]
theorem ext_tx (s : ByteArray) (a b : Tx) (h : txB s = a ++ 10 :: b) : txB (s.extract 0 a.length) = a ∧ txB (s.extract (a.length + 1) s.size) = b ∧ s.size = a.length + 1 + b.length := by
  have hl : s.size = a.length + 1 + b.length := by rw [← txB_len, h, List.length_append]; simp; omega
  refine ⟨?_, ?_, hl⟩
  · show (s.extract 0 a.length).data.toList = a
    rw [Lib.extract_data, show s.data.toList = a ++ 10 :: b from h]
    simp
  · show (s.extract (a.length + 1) s.size).data.toList = b
    rw [Lib.extract_data, show s.data.toList = a ++ 10 :: b from h, hl]
    rw [List.drop_append, List.drop_eq_nil_of_le (by omega), show a.length + 1 - a.length = 1 by omega]
    simp
set_option maxRecDepth 100000 in
set_option maxHeartbeats 4000000 in
theorem split_cell (n : Nat) (hn : 3 ≤ n) (s : ByteArray) (hs : s.size ≤ 1000000) (w : World) (b : Nat) (hb0 : Bxo w b 9 [.string s]) (hb1 : Bxo w (b + 1) 9 [.string nlB]) (hb2 : Bxo w (b + 2) 3 [.int .i64 0]) :
    SeqCell Fence.wide n Tryz.prog 48 #[.pointer (some ⟨b + 1, 0, none⟩), .pointer (some ⟨b, 0, none⟩), .pointer (some ⟨b + 2, 0, none⟩)] encL (KpS b) (fun xs => lnX xs = splitB 10 (txB s)) (fun pre => lnX pre <+: splitB 10 (txB s)) (splitB 10 (txB s)).length b w := by
  intro l J Jx W hW hst hdr hY h0
  have B0 := hb0.keep hW hb0.lt
  have B1 := hb1.keep hW hb1.lt
  have B2 := hb2.keep hW hb2.lt
  have c1 := B1.cell 0 rfl
  have hro : Fence.wide.round = none := rfl
  have hfI : Fence.wide.fn 50 := trivial
  have h1n : 1 ≤ n := by omega
  have h2n : 1 ≤ n - 1 := by omega
  refine callsIn_of_wp Tryz.func48 rfl trivial ?_ hro
  simp only [Tryz.ntmps48, List.size_toArray, List.length_cons, List.length_nil, Nat.reduceAdd, Nat.reduceSub, Array.replicate_succ, Array.replicate_zero, List.push_toArray, List.append_toArray, List.nil_append, List.cons_append]
  gi_wp2
  have HY := Go.Lib.hid hY
  have HST := Go.Lib.hid hst
  clear hY hst c1
  gi_loopw [] (fun wr => ∃ (pre : List LnT) (cur : ByteArray), Hid (lnX pre ++ splitB 10 (txB cur) = splitB 10 (txB s)) ∧ cur.size ≤ 1000000 ∧ Hid (Bxo wr b 9 [.string cur]) ∧ Hid (Bxo wr (b + 1) 9 [.string nlB]) ∧ Hid (Bxo wr (b + 2) 3 [.int .i64 0]) ∧ Hid (J pre wr)) (fun wr => curLen b wr)
  case atStart => exact ⟨[], s, Go.Lib.hid rfl, hs, Go.Lib.hid B0, Go.Lib.hid B1, Go.Lib.hid B2, Go.Lib.hid h0⟩
  case round =>
    rename World => wo
    obtain ⟨pre, cur, HC, hcz, C0, C1, C2, HJ⟩ := hrel
    have d0 := C0.out.cell 0 rfl
    have d1 := C1.out.cell 0 rfl
    have d2 := C2.out.cell 0 rfl
    rcases ix_cases 10 (txB cur) with ⟨hi, hno⟩ | ⟨a, r, hcur, ha, hi⟩
    · have HI := Go.Lib.hid hi
      have HE : Hid (lnX (pre ++ [⟨cur, hcz⟩]) = splitB 10 (txB s)) := Go.Lib.hid (by
        rw [← HC.out, split_none hno]
        simp)
      have hlen : pre.length < (splitB 10 (txB s)).length := by
        rw [← HE.out]; simp
      obtain ⟨fn, tmps, assign, body, hy, hR⟩ := HY.out pre ⟨cur, hcz⟩ wo HJ.out hlen
      have hy' : (Instr.yield l #[.string cur]).run Tryz.prog wo = _ := hy
      clear hi hno
      gi_wp2_with (gi_at_call 50; refine (callsIn_wide.2 (cix15 cur wo _ HI.out)).mono ?_; rintro e w2 ⟨rfl, rfl⟩; dsimp only)
      refine hR.mono ?_
      rintro e W3 (⟨rfl, hJ3, hk3⟩ | ⟨rfl, hJx3⟩)
      · gi_wp2
        go_end0
        exact ⟨⟨_, rfl⟩, .inl ⟨_, HE.out, hJ3⟩⟩
      · gi_wp2
        go_end0
        exact ⟨⟨_, rfl⟩, .inr ⟨_, ⟨[], by rw [List.append_nil]; exact HE.out⟩, hJx3⟩⟩
    · obtain ⟨hx1, hx2, hx3⟩ := ext_tx cur a r hcur
      obtain ⟨k, hk⟩ : ∃ k, a.length = k := ⟨_, rfl⟩
      rw [hk] at hi hx1 hx2 hx3
      have hxz : (cur.extract 0 k).size ≤ 1000000 := by rw [← txB_len, hx1]; omega
      have hyz : (cur.extract (k + 1) cur.size).size ≤ 1000000 := by rw [← txB_len, hx2]; omega
      have HI := Go.Lib.hid hi
      have HE : Hid (lnX (pre ++ [⟨cur.extract 0 k, hxz⟩]) ++ splitB 10 (txB (cur.extract (k + 1) cur.size)) = splitB 10 (txB s)) := Go.Lib.hid (by
        rw [← HC.out, hcur, split_at r ha, hx2]
        simp [lnX, hx1])
      have hlen : pre.length < (splitB 10 (txB s)).length := by
        rw [← HE.out]; simp
      have HSZ : Hid ((cur.extract (k + 1) cur.size).size < cur.size) := Go.Lib.hid (by rw [← txB_len, hx2]; omega)
      obtain ⟨fn, tmps, assign, body, hy, hR⟩ := HY.out pre ⟨cur.extract 0 k, hxz⟩ wo HJ.out hlen
      have hy' : (Instr.yield l #[.string (cur.extract 0 k)]).run Tryz.prog wo = _ := hy
      have k0 : (0 : Int) ≤ (k : Int) := by omega
      have k1 : ¬ ((k : Int) < 0) := by omega
      have k2 : (k : Int) ≤ (cur.size : Int) := by omega
      have k3 : (k : Int) + 1 ≤ (cur.size : Int) := by omega
      have e1 : IntKind.i64.wrap (k : Int) = (k : Int) := IntWalk.i64_in _ (by omega)
      have e2 : IntKind.i64.wrap ((k : Int) + 1) = (k : Int) + 1 := IntWalk.i64_in _ (by omega)
      have e3 : ((k : Int) + 1).toNat = k + 1 := by omega
      clear hi ha hcur hk hx1 hx2 hx3
      gi_wp2_with (gi_at_call 50; refine (callsIn_wide.2 (cix15 cur wo _ HI.out)).mono ?_; rintro e w2 ⟨rfl, rfl⟩; dsimp only)
      refine hR.mono ?_
      rintro e W3 (⟨rfl, hJ3, hk3⟩ | ⟨rfl, hJx3⟩)
      · have E0 : Bxo W3 b 9 [.string cur] := hk3.1.trans C0.out
        have E1 : Bxo W3 (b + 1) 9 [.string nlB] := hk3.2.1.trans C1.out
        have E2 : Bxo W3 (b + 2) 3 [.int .i64 0] := hk3.2.2.trans C2.out
        have f0 := E0.cell 0 rfl
        have f1 := E1.cell 0 rfl
        have fz := E0.frozen 0
        have HE0 := Go.Lib.hid E0
        have HE1 := Go.Lib.hid E1
        have HE2 := Go.Lib.hid E2
        have HJ3 := Go.Lib.hid hJ3
        clear E0 E1 E2 hk3 hJ3
        gi_wp2
        go_roundw
        case rel => exact ⟨_, _, HE, hyz, Go.Lib.hid (HE0.out.set 0 _), Go.Lib.hid (HE1.out.other (show b + 1 ≠ b by omega) _), Go.Lib.hid (HE2.out.other (show b + 2 ≠ b by omega) _), Go.Lib.hid (HST.out _ _ _ HJ3.out)⟩
        case measure => rw [curLen_eq (HE0.out.set 0 _), curLen_eq C0.out]; exact HSZ.out
      · gi_wp2
        refine bodyPost_ret (results_none rfl _ _ _) rfl ?_
        exact ⟨⟨_, rfl⟩, .inr ⟨_, ⟨_, HE.out⟩, hJx3⟩⟩
end Go.Proofs.YtoghcefamoefpaaGreatDoor

/- The landed conf: Parse. -/
namespace Go.Proofs.YtoghcefamoefpaaGreatDoor
open Go.ChangeShapes Go.WideShapes Go.ChangeAt Go.RowKit Go.Shelf
set_option linter.unusedVariables false
set_option linter.unusedSimpArgs false

abbrev CFT : TypeId := 27
/-- between two lines. -/
structure PaI (b : Nat) (w : World) (pre : List LnT) (W : World) : Prop where
  dr : ∃ c p, DrAt W (b + 9) (b + 3) c p ∧ SzC c pre.length ∧ ∀ rest, linesP (lnX pre ++ rest) 0 cfD = linesP rest pre.length c
  few : pre.length ≤ 512
  b0 : Bxo W b 27 (cfL cf0 cfm0)
  b1 : Bxo W (b + 1) 30 [.int .i64 0]
  b2 : Bxo W (b + 2) 3 [.int .i64 0]
  b4 : Bxo W (b + 4) 59 [.pointer (some ⟨b + 3, 0, none⟩)]
  b5 : Bxo W (b + 5) 3 [.int .i64 pre.length]
  bel : Below b w W
  sz : b + 9 ≤ W.heap.size
  tb : Tb W
/-- left, with an error in its line. -/
structure PaX (b : Nat) (w : World) (c : Code) (pre : List LnT) (W : World) : Prop where
  is : c = .ret
  out : ∃ e k : Int, Bxo W b 27 (cfL cf0 cfm0) ∧ Bxo W (b + 1) 30 [.int .i64 e] ∧ Bxo W (b + 2) 3 [.int .i64 k] ∧ ∀ rest, linesP (lnX pre ++ rest) 0 cfD = (cf0, e, k)
  bel : Below b w W
  sz : b + 9 ≤ W.heap.size
  tb : Tb W
section
variable {b x : Nat} {w W W' : World} {pre : List LnT} {c : Code}
theorem PaI.gro (h : PaI b w pre W) (y : Gro x W W') (hx : b + 6 ≤ x) (hr : ∀ c p, DrAt W (b + 9) (b + 3) c p → NoRow p x) (h7 : 7 < b) : PaI b w pre W' := by
  obtain ⟨c, p, hd, hs, hl⟩ := h.dr
  exact ⟨⟨c, p, hd.gro y (by omega) (hr c p hd), hs, hl⟩, h.few, h.b0.gro y (by omega), h.b1.gro y (by omega), h.b2.gro y (by omega), h.b4.gro y (by omega), h.b5.gro y (by omega), h.bel.trans (y.below (by omega) (by have := h.sz; omega)), Nat.le_trans h.sz y.size, h.tb.gro y (by omega)⟩
theorem PaX.gro (h : PaX b w c pre W) (y : Gro x W W') (hx : b + 6 ≤ x) (h7 : 7 < b) : PaX b w c pre W' := by
  obtain ⟨e, k, h0, h1, h2, hl⟩ := h.out
  exact ⟨h.is, ⟨e, k, h0.gro y (by omega), h1.gro y (by omega), h2.gro y (by omega), hl⟩, h.bel.trans (y.below (by omega) (by have := h.sz; omega)), Nat.le_trans h.sz y.size, h.tb.gro y (by omega)⟩
theorem norow_low {B gd : Nat} {c : Cf} {p : Cfm} (hd : DrAt W B gd c p) (hx : x < B) : NoRow p x :=
  ⟨fun e => by have := (own_lo hd.r1 e).1; omega, fun e => by have := (own_lo hd.r2 e).1; omega, fun e => by have := (own_lo hd.r3 e).1; omega⟩
theorem norow_not {B gd : Nat} {c : Cf} {p : Cfm} {o : Obj} (hd : DrAt W B gd c p) (ho : W.heap[x]? = some o) (hc : o.isCells = false) : NoRow p x := ⟨own_not hd.r1 ho hc, own_not hd.r2 ho hc, own_not hd.r3 ho hc⟩
theorem gro_row {row : Option Nat} (hg : W.grownBy W' row) : Gro (row.getD W.heap.size) W W' := by
  refine ⟨hg.os, hg.tape, hg.output, hg.size, fun k hk hn => hg.block k hk (fun e => ?_)⟩
  subst e
  exact hn rfl
theorem PaI.own (h7 : 7 < b) : OwnFrom (b + 9) (PaI b w) := fun pre W W' row h hg hr => by
  refine h.gro (gro_row hg) ?_ (fun c p hd => ?_) h7
  · cases row with
    | none => have := h.sz; show b + 6 ≤ W.heap.size; omega
    | some r => have := (hr r rfl).1; show b + 6 ≤ r; omega
  · cases row with
    | none => exact hd.norow (Nat.le_refl _)
    | some r => obtain ⟨_, o, ho, hc⟩ := hr r rfl; exact norow_not hd ho hc
theorem PaX.own (h7 : 7 < b) (c : Code) : OwnFrom (b + 9) (PaX b w c) := fun pre W W' row h hg hr => by
  refine h.gro (gro_row hg) ?_ h7
  cases row with
  | none => have := h.sz; show b + 6 ≤ W.heap.size; omega
  | some r => have := (hr r rfl).1; show b + 6 ≤ r; omega
theorem PaI.st (h7 : 7 < b) (pre : List LnT) (X : World) (v : Value) (h : PaI b w pre X) : PaI b w pre (X.setCell ⟨b + 6, 0, none⟩ v) :=
  h.gro (Only.refl.set 0 v).gro (Nat.le_refl _) (fun c p hd => norow_low hd (by omega)) h7
theorem PaI.drew (h7 : 7 < b) (pre : List LnT) (X : World) (h : PaI b w pre X) : PaI b w pre X.drew :=
  h.gro (x := X.heap.size) ⟨rfl, rfl, rfl, Nat.le_refl _, fun _ _ _ => rfl⟩ (by have := h.sz; omega) (fun c p hd => hd.norow (Nat.le_refl _)) h7
end
theorem inr_store_any {F : Fence} {m : Nat} {P : Program} {op : Oper} {a : Act} {w : World} {K : Act → World → Prop} {Q : Exit → Act → World → Prop} (sty : TypeId) (x y : Operand) (ho : op.op = .store sty x y)
    (g o : Nat) (ty : TypeId) (cs vs : List Value) (v : Value) (hx : a.eval x = .pointer (some ⟨g, o, none⟩)) (hy : a.eval y = v) (hv : v.cells = vs.toArray) (hc : Bxo w g ty cs)
    (hi : (P.info? sty).map (·.size) = some vs.length) (hs : o + vs.length ≤ cs.length) (h1 : ∀ u ∈ vs, u.oneCell' = true)
    (h : ∀ w', Bxo w' g ty (spl cs o vs) → Only g w w' → K (a.put op.dst undef) w') : op.wpIn F m P a w K Q := by
  refine ⟨fun f hf => by simp [Oper.about, ho] at hf, ?_⟩
  have e : (op.semAt F.round a.eval).run P w = .ok .skip (w.setCells g o vs) := by
    rw [Oper.semAt_eq _ _ _ (by rw [ho]; intro c hc; cases hc)]
    unfold execOp
    simp only [ho, hx, hy, Instr.storeAt, Instr.sureAddr, Sem.run_bind, Sem.run_pure, Result.andThen_ok, run_storeVar_any w g o ty sty cs vs v hv hc hi hs h1]
  rw [e]
  obtain ⟨h2, h3⟩ := Bxo.setCells vs o cs w hc
  exact h _ h2 h3
theorem inr_load1 {F : Fence} {m : Nat} {P : Program} {op : Oper} {a : Act} {w : World} {K : Act → World → Prop} {Q : Exit → Act → World → Prop} (ty : TypeId) (x : Operand) (ho : op.op = .load ty x) {v : Value}
    (h0 : (execOp a.eval op).run P w = .ok (.value v) w) (h : K (a.put op.dst v) w) : op.wpIn F m P a w K Q := by
  refine ⟨fun f hf => by simp [Oper.about, ho] at hf, ?_⟩
  rw [Oper.semAt_eq _ _ _ (by rw [ho]; intro c hc; cases hc), h0]
  exact h
/-- the world at the loop's start. -/
abbrev paW (w : World) (s : ByteArray) : World := spW ((((((w.alloc (.cells (cfL cf0 cfm0).toArray 27)).alloc (.cells #[.int .i64 0] 30)).alloc (.cells #[.int .i64 0] 3)).alloc (.cells (cfL cfD cfm0).toArray 66)).alloc (.cells #[.pointer (some ⟨w.heap.size + 3, 0, none⟩)] 59)).alloc (.cells #[.int .i64 0] 3)) s
theorem made_at (w : World) (ty : TypeId) (cs : List Value) {g : Nat} (hg : w.heap.size = g) : Bxo (w.alloc (.cells cs.toArray ty)) g ty cs := by rw [← hg]; exact Bxo.made w ty cs
theorem pa_start (w : World) (s : ByteArray) (ht : Tb w) : PaI w.heap.size w [] (paW w s) ∧ (paW w s).heap.size = w.heap.size + 9 ∧ Bxo (paW w s) (w.heap.size + 6) 9 [.string s] ∧ Bxo (paW w s) (w.heap.size + 7) 9 [.string nlB] ∧ Bxo (paW w s) (w.heap.size + 8) 3 [.int .i64 0] := by
  have hsz : (paW w s).heap.size = w.heap.size + 9 := by simp
  have hbel : Below w.heap.size w (paW w s) := by
    refine below_alloc (below_alloc (below_alloc (below_alloc (below_alloc (below_alloc (below_alloc (below_alloc (below_alloc (Below.refl _ _) ?_ _) ?_ _) ?_ _) ?_ _) ?_ _) ?_ _) ?_ _) ?_ _) ?_ _ <;> simp <;> omega
  have h0 := ((((((((made_at w 27 (cfL cf0 cfm0) rfl).alloc (.cells #[.int .i64 0] 30)).alloc (.cells #[.int .i64 0] 3)).alloc (.cells (cfL cfD cfm0).toArray 66)).alloc (.cells #[.pointer (some ⟨w.heap.size + 3, 0, none⟩)] 59)).alloc (.cells #[.int .i64 0] 3)).alloc (.cells #[.string s] 9)).alloc (.cells #[.string nlB] 9)).alloc (.cells #[.int .i64 0] 3)
  have h1 := (((((((made_at (w.alloc (.cells (cfL cf0 cfm0).toArray 27)) 30 [.int .i64 0] (g := w.heap.size + 1) (by simp)).alloc (.cells #[.int .i64 0] 3)).alloc (.cells (cfL cfD cfm0).toArray 66)).alloc (.cells #[.pointer (some ⟨w.heap.size + 3, 0, none⟩)] 59)).alloc (.cells #[.int .i64 0] 3)).alloc (.cells #[.string s] 9)).alloc (.cells #[.string nlB] 9)).alloc (.cells #[.int .i64 0] 3)
  have h2 := ((((((made_at ((w.alloc (.cells (cfL cf0 cfm0).toArray 27)).alloc (.cells #[.int .i64 0] 30)) 3 [.int .i64 0] (g := w.heap.size + 2) (by simp)).alloc (.cells (cfL cfD cfm0).toArray 66)).alloc (.cells #[.pointer (some ⟨w.heap.size + 3, 0, none⟩)] 59)).alloc (.cells #[.int .i64 0] 3)).alloc (.cells #[.string s] 9)).alloc (.cells #[.string nlB] 9)).alloc (.cells #[.int .i64 0] 3)
  have h3 := (((((made_at (((w.alloc (.cells (cfL cf0 cfm0).toArray 27)).alloc (.cells #[.int .i64 0] 30)).alloc (.cells #[.int .i64 0] 3)) 66 (cfL cfD cfm0) (g := w.heap.size + 3) (by simp)).alloc (.cells #[.pointer (some ⟨w.heap.size + 3, 0, none⟩)] 59)).alloc (.cells #[.int .i64 0] 3)).alloc (.cells #[.string s] 9)).alloc (.cells #[.string nlB] 9)).alloc (.cells #[.int .i64 0] 3)
  have h4 := ((((made_at ((((w.alloc (.cells (cfL cf0 cfm0).toArray 27)).alloc (.cells #[.int .i64 0] 30)).alloc (.cells #[.int .i64 0] 3)).alloc (.cells (cfL cfD cfm0).toArray 66)) 59 [.pointer (some ⟨w.heap.size + 3, 0, none⟩)] (g := w.heap.size + 4) (by simp)).alloc (.cells #[.int .i64 0] 3)).alloc (.cells #[.string s] 9)).alloc (.cells #[.string nlB] 9)).alloc (.cells #[.int .i64 0] 3)
  have h5 := (((made_at (((((w.alloc (.cells (cfL cf0 cfm0).toArray 27)).alloc (.cells #[.int .i64 0] 30)).alloc (.cells #[.int .i64 0] 3)).alloc (.cells (cfL cfD cfm0).toArray 66)).alloc (.cells #[.pointer (some ⟨w.heap.size + 3, 0, none⟩)] 59)) 3 [.int .i64 0] (g := w.heap.size + 5) (by simp)).alloc (.cells #[.string s] 9)).alloc (.cells #[.string nlB] 9)).alloc (.cells #[.int .i64 0] 3)
  have h6 := ((made_at ((((((w.alloc (.cells (cfL cf0 cfm0).toArray 27)).alloc (.cells #[.int .i64 0] 30)).alloc (.cells #[.int .i64 0] 3)).alloc (.cells (cfL cfD cfm0).toArray 66)).alloc (.cells #[.pointer (some ⟨w.heap.size + 3, 0, none⟩)] 59)).alloc (.cells #[.int .i64 0] 3)) 9 [.string s] (g := w.heap.size + 6) (by simp)).alloc (.cells #[.string nlB] 9)).alloc (.cells #[.int .i64 0] 3)
  have h7 := (made_at (((((((w.alloc (.cells (cfL cf0 cfm0).toArray 27)).alloc (.cells #[.int .i64 0] 30)).alloc (.cells #[.int .i64 0] 3)).alloc (.cells (cfL cfD cfm0).toArray 66)).alloc (.cells #[.pointer (some ⟨w.heap.size + 3, 0, none⟩)] 59)).alloc (.cells #[.int .i64 0] 3)).alloc (.cells #[.string s] 9)) 9 [.string nlB] (g := w.heap.size + 7) (by simp)).alloc (.cells #[.int .i64 0] 3)
  have h8 := made_at ((((((((w.alloc (.cells (cfL cf0 cfm0).toArray 27)).alloc (.cells #[.int .i64 0] 30)).alloc (.cells #[.int .i64 0] 3)).alloc (.cells (cfL cfD cfm0).toArray 66)).alloc (.cells #[.pointer (some ⟨w.heap.size + 3, 0, none⟩)] 59)).alloc (.cells #[.int .i64 0] 3)).alloc (.cells #[.string s] 9)).alloc (.cells #[.string nlB] 9)) 3 [.int .i64 0] (g := w.heap.size + 8) (by simp)
  have hlt := ht.lt
  refine ⟨⟨⟨cfD, cfm0, ⟨h3, by omega, Nat.le_of_eq hsz.symm, by omega, own_none _ _ _ _, own_none _ _ _ _, own_none _ _ _ _, (fun k e => by cases e), (fun k e => by cases e), (fun k e => by cases e), ⟨(fun r hr => by cases hr), (fun r hr => by cases hr), (by decide), (fun r hr => by cases hr)⟩⟩, ⟨Nat.le_refl _, Nat.le_refl _, Nat.le_refl _⟩, fun rest => rfl⟩, by decide, h0, h1, h2, h4, h5, hbel, Nat.le_of_eq hsz.symm, ht.at hbel⟩, hsz, h6, h7, h8⟩
end Go.Proofs.YtoghcefamoefpaaGreatDoor
