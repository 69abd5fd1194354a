/- Lemmas, several texts in one. -/
import Derived.Test.YtofpalmghdapkaaQ16
import Derived.Test.YtofpalmghdapkaaQ20
/- FlowsRight, from the contracts. -/
namespace Go.Proofs.Ytofpalmghdapkaa
open Go.ChangeShapes Go.WideShapes Go.ChangeAt Go.RowKit
set_option linter.unusedVariables false
set_option linter.unusedSimpArgs false

set_option maxRecDepth 100000 in
set_option maxHeartbeats 32000000 in
theorem flowsRight (K : StoreC) (KN : StoreN) (room : Int) (L : List Af) (A : Option Addr) (c : Nat) (w : World) (h : AfsAt w L A c) :
    Calls Try.prog 3 #[.int .i64 room, .slice A L.length c] w fun e w' => e = .returned (.bool true) ∧ Below w.heap.size w w' := by
  have HL := Go.Lib.hid h
  have hlc := h.len
  have hcc := h.cap
  have kA := Go.Lib.hid (cawake12 K)
  clear h
  go_enter Try.func3, Try.ntmps3
  by_cases hbig : 20 < room ∧ room ≤ 256
  · obtain ⟨hb, hb2⟩ := hbig
    go_wp2_with (go_at_call 6; refine (kA.out _).mono ?_; rintro e w1 ⟨rfl, y1⟩; dsimp only)
    go_ret
    exact ⟨rfl, y1⟩
  cases hn : newS room with
  | none =>
    have HN := Go.Lib.hid hn
    have HD : Hid (newD room = (sr0, 1)) := Go.Lib.hid (by unfold newD; rw [hn])
    have hr : room < 1 ∨ 256 < room := by
      unfold newS at hn
      split at hn
      · rename_i h; omega
      · cases hn
    clear hn hbig
    as_aux_lemma =>
      rcases hr with hr | hr
      · have hr2 : ¬ 20 < room := by omega
        go_upto_region 7 with (first
          | (go_at_call 6; refine (kA.out _).mono ?_; rintro e w1 ⟨rfl, y1⟩; dsimp only)
          | (go_at_call 7; refine (K.new0 room _ HN.out).mono ?_; rintro e w2 ⟨rfl, y2⟩; dsimp only)
          | (go_at_call 8; refine (rnew12 room _ _ HD.out).mono ?_; rintro e w3 ⟨A3, c3, B3, d3, rfl, hs3⟩; have HS3 := Go.Lib.hid hs3; clear hs3; dsimp only))
        have u1 := y1.trans (y2.mono y1.size)
        have u2 := u1.trans (HS3.out.below.mono u1.size)
        have u3 := below_alloc u2 u2.size (oSd sr0 A3 c3 B3 d3)
        generalize w3.alloc (oSd sr0 A3 c3 B3 d3) = W at *
        clear HS3 y1 y2 u1 u2
        go_wp2_with (first
          | (go_at_call 9; refine (KN.add fl0 _).mono ?_; rintro e v1 ⟨rfl, z1⟩; dsimp only)
          | (go_at_call 10; refine (KN.find tp0 _).mono ?_; rintro e v2 ⟨rfl, z2⟩; dsimp only)
          | (go_at_call 11; refine (KN.get 0 _).mono ?_; rintro e v3 ⟨rfl, z3⟩; dsimp only)
          | (go_at_call 12; refine (KN.drop 0 _).mono ?_; rintro e v4 ⟨rfl, z4⟩; dsimp only)
          | (go_at_call 13; refine (KN.tick 1 _).mono ?_; rintro e v5 ⟨A5, c5, rfl, z5⟩; dsimp only)
          | (go_at_call 14; refine (KN.set 0 1 1 _).mono ?_; rintro e v6 ⟨rfl, z6⟩; dsimp only)
          | (go_at_call 15; refine (KN.all_ _).mono ?_; rintro e v7 ⟨A7, c7, rfl, z7⟩; dsimp only)
          | (go_at_call 16; refine (KN.len_ _).mono ?_; rintro e v8 ⟨rfl, z8⟩; dsimp only))
        go_ret
        have u4 := u3.trans (z1.mono u3.size)
        have u5 := u4.trans (z2.mono u4.size)
        have u6 := u5.trans (z3.mono u5.size)
        have u7 := below_alloc u6 u6.size (oFl fl0)
        have u8 := u7.trans (z4.mono u7.size)
        have u9 := below_alloc u8 u8.size (oFl fl0)
        have x1 := u9.trans (z5.mono u9.size)
        have x2 := x1.trans (z6.mono x1.size)
        have x3 := x2.trans (z7.mono x2.size)
        exact ⟨rfl, x3.trans (z8.mono x3.size)⟩
      · have hr2 : 20 < room := by omega
        have hr3 : ¬ room ≤ 256 := by omega
        go_upto_region 7 with (first
          | (go_at_call 6; refine (kA.out _).mono ?_; rintro e w1 ⟨rfl, y1⟩; dsimp only)
          | (go_at_call 7; refine (K.new0 room _ HN.out).mono ?_; rintro e w2 ⟨rfl, y2⟩; dsimp only)
          | (go_at_call 8; refine (rnew12 room _ _ HD.out).mono ?_; rintro e w3 ⟨A3, c3, B3, d3, rfl, hs3⟩; have HS3 := Go.Lib.hid hs3; clear hs3; dsimp only))
        have u1 := y1.trans (y2.mono y1.size)
        have u2 := u1.trans (HS3.out.below.mono u1.size)
        have u3 := below_alloc u2 u2.size (oSd sr0 A3 c3 B3 d3)
        generalize w3.alloc (oSd sr0 A3 c3 B3 d3) = W at *
        clear HS3 y1 y2 u1 u2
        go_wp2_with (first
          | (go_at_call 9; refine (KN.add fl0 _).mono ?_; rintro e v1 ⟨rfl, z1⟩; dsimp only)
          | (go_at_call 10; refine (KN.find tp0 _).mono ?_; rintro e v2 ⟨rfl, z2⟩; dsimp only)
          | (go_at_call 11; refine (KN.get 0 _).mono ?_; rintro e v3 ⟨rfl, z3⟩; dsimp only)
          | (go_at_call 12; refine (KN.drop 0 _).mono ?_; rintro e v4 ⟨rfl, z4⟩; dsimp only)
          | (go_at_call 13; refine (KN.tick 1 _).mono ?_; rintro e v5 ⟨A5, c5, rfl, z5⟩; dsimp only)
          | (go_at_call 14; refine (KN.set 0 1 1 _).mono ?_; rintro e v6 ⟨rfl, z6⟩; dsimp only)
          | (go_at_call 15; refine (KN.all_ _).mono ?_; rintro e v7 ⟨A7, c7, rfl, z7⟩; dsimp only)
          | (go_at_call 16; refine (KN.len_ _).mono ?_; rintro e v8 ⟨rfl, z8⟩; dsimp only))
        go_ret
        have u4 := u3.trans (z1.mono u3.size)
        have u5 := u4.trans (z2.mono u4.size)
        have u6 := u5.trans (z3.mono u5.size)
        have u7 := below_alloc u6 u6.size (oFl fl0)
        have u8 := u7.trans (z4.mono u7.size)
        have u9 := below_alloc u8 u8.size (oFl fl0)
        have x1 := u9.trans (z5.mono u9.size)
        have x2 := x1.trans (z6.mono x1.size)
        have x3 := x2.trans (z7.mono x2.size)
        exact ⟨rfl, x3.trans (z8.mono x3.size)⟩
  | some s0 =>
    have HN := Go.Lib.hid hn
    have HD : Hid (newD room = (s0, 0)) := Go.Lib.hid (by unfold newD; rw [hn])
    obtain ⟨hR0, hlen0, hnow0, _⟩ := RightS.new hn
    have hr : ¬ 20 < room := by
      unfold newS at hn
      split at hn
      · cases hn
      · omega
    have hs20 : s0.slots.length ≤ 20 := by omega
    clear hn hbig hnow0 hlen0
    go_upto_region 7 with (first
      | (go_at_call 6; refine (kA.out _).mono ?_; rintro e w1 ⟨rfl, y1⟩; dsimp only)
      | (go_at_call 7; refine (K.new1 room _ _ HN.out).mono ?_; rintro e w2 ⟨ad, F, rfl, r2, f2, y2⟩; have H2 := Go.Lib.hid (SrI.made y1 r2 f2 y2); clear r2 f2 y2; dsimp only)
      | (go_at_call 8; refine (rnew12 room _ _ HD.out).mono ?_; rintro e w3 ⟨A3, c3, B3, d3, rfl, hs3⟩; have HS3 := Go.Lib.hid hs3; clear hs3; dsimp only))
    have HR0 : Hid (RtF K w w3.heap.size ad s0 s0 F A3 c3 B3 d3 (w3.alloc (oSd s0 A3 c3 B3 d3))) := Go.Lib.hid (by
      have hz := HS3.out.below.size
      refine ⟨H2.out.call (below_alloc HS3.out.below HS3.out.below.size _), Bxo.made w3 31 (sdL s0 A3 c3 B3 d3), HS3.out.sd.at ((Below.refl _ _).alloc (Nat.le_refl _) _), Nat.le_trans H2.out.below.size hz, fun f => by have := K.lt H2.out.rep _ f; omega, fun b e => ?_⟩
      rcases HS3.out.fresh with ⟨e1, e2⟩ | ⟨fa, fb⟩
      · subst e1 e2
        exact e.elim (fun e => by cases e) (fun e => by cases e)
      · have h2 := e.elim (fun e => fa b e) (fun e => fb b e)
        exact ⟨by omega, fun f => by have := K.lt H2.out.rep _ f; omega, by simp; omega⟩)
    generalize w3.alloc (oSd s0 A3 c3 B3 d3) = W at *
    generalize w3.heap.size = g at *
    clear kA H2 HS3 y1
    go_wp2_with fail
    go_loopw [20] (fun iv wr => ∃ (i : Nat) (X : Sr) (F' : Nat → Prop) (A' : Option Addr) (c' : Nat) (B' : Option Addr) (d' : Nat), iv = .int .i64 i ∧ i ≤ L.length ∧ i ≤ 120 ∧ X.slots.length ≤ 20 ∧ Hid (RtF K w g ad X X F' A' c' B' d' wr)) (fun iv _ => 300 - (intOf iv).toNat)
    case atStart => exact ⟨0, s0, F, A3, c3, B3, d3, rfl, by omega, by omega, hs20, HR0⟩
    case round =>
      rename World => wo
      obtain ⟨i, X, F1, A1, c1, B1, d1, rfl, hi1, hi2, hX, HI⟩ := hrel
      clear HR0
      have i0 : (0 : Int) ≤ (i : Int) := by omega
      by_cases hlt : i < L.length
      · by_cases h120 : i < 120
        · have t1 : (i : Int) < (L.length : Int) := by omega
          have t2 : (i : Int) < 120 := by omega
          obtain ⟨bd, rfl, hcell⟩ := HL.out.cell hlt
          obtain ⟨a, ha⟩ : ∃ a, L[i] = a := ⟨_, rfl⟩
          rw [ha] at hcell
          have HNR : Hid (RngFl a.fl ∧ I64 a.num) := Go.Lib.hid (by rw [← ha]; exact HL.out.rng _ (List.getElem_mem hlt))
          have HW := Go.Lib.hid (hcell wo HI.out.st.below)
          have y3 : Below wo.heap.size wo (wo.alloc (oAf a)) := below_alloc (Below.refl _ _) (Nat.le_refl _) _
          have HI2 := Go.Lib.hid (HI.out.call y3)
          have HB2 : Hid (Bxf F1 wo.heap.size 53 (afL a) (wo.alloc (oAf a))) := Go.Lib.hid ⟨Bxo.made wo 53 (afL a), fun hb => by have := K.lt HI.out.st.rep _ hb; omega⟩
          have hga := HI.out.box.lt
          clear hcell ha HI y3
          go_upto_region 20 with (refine wpList_load_at rfl 53 _ rfl (bd.add (i * 16)) rfl (afL a) _ HW.out Try.underlying53 rfl info_af ?_)
          have hgg := HB2.out.box.lt
          generalize wo.alloc (oAf a) = W2 at *
          generalize wo.heap.size = ga at *
          obtain ⟨kind, fl, num, at_, no⟩ := a
          have HNR : Hid (RngFl fl ∧ I64 num) := HNR
          have b0 := HB2.out.box.cell 0 rfl
          go_upto_block 2 with fail
          go_cut [] (fun wx => ∃ (X' : Sr) (F' : Nat → Prop) (A' : Option Addr) (c' : Nat) (B' : Option Addr) (d' : Nat), X'.slots.length ≤ 20 ∧ Hid (RtF K w g ad X' X' F' A' c' B' d' wx) ∧ Hid (Bxf F' ga 53 (afL ⟨kind, fl, num, at_, no⟩) wx))
          case first =>
            as_aux_lemma =>
              by_cases k0 : kind = 0
              · have tk : (kind == 0) = true := by simpa using k0
                obtain ⟨⟨X3, n3, e3⟩, hq⟩ : ∃ q, addS X fl = q := ⟨_, rfl⟩
                have hk := hq ▸ add_keeps X fl
                have HQ := Go.Lib.hid hq
                have te : (e3 != e3) = false := by simp
                have tn : (n3 != n3) = false := by simp
                have hk3 : X3.slots.length ≤ 20 := by have := hk.2; dsimp only at this; omega
                clear hq k0 hk
                go_upto_region 28 with (first
                  | (refine wpList_load_at rfl 40 _ rfl (⟨ga, 1, none⟩) rfl (flL fl) _ HB2.out.box.flow Try.underlying40 rfl info_fl ?_)
                  | (go_at_call 9; refine (K.add HI2.out.st.rep fl _ HNR.out.1 HQ.out).mono ?_; rintro e w3 ⟨F3, rfl, r3, n3', m3⟩; have HI3 := Go.Lib.hid (HI2.out.turn r3 n3' m3); have HB3 := Go.Lib.hid (HB2.out.turn n3' m3); clear r3 n3' m3; dsimp only))
                go_upto_region 29 with (first
                  | (refine wpList_load_box rfl 31 _ rfl g rfl (sdL X A1 c1 B1 d1) _ HI3.out.box Try.underlying31 rfl info_sd ?_)
                  | (refine wpList_load_at rfl 40 _ rfl (⟨ga, 1, none⟩) rfl (flL fl) _ HB3.out.box.flow Try.underlying40 rfl info_fl ?_)
                  | (go_at_call 17; refine (radd12 X A1 c1 B1 d1 fl w3 HI3.out.sd (by omega) _ HQ.out).mono ?_; rintro e w4 ⟨A4, c4, B4, d4, rfl, hs4⟩; have HS4 := Go.Lib.hid hs4; clear hs4; dsimp only))
                have HS5 := Go.Lib.hid (HS4.out.more ((Below.refl _ _).alloc (Nat.le_refl _) (oSd X3 A4 c4 B4 d4)))
                have HB7 := Go.Lib.hid (Bxo.made w4 31 (sdL X3 A4 c4 B4 d4))
                have HBA := Go.Lib.hid (HB3.out.call HS5.out.below)
                generalize w4.alloc (oSd X3 A4 c4 B4 d4) = w5 at *
                generalize w4.heap.size = g7 at *
                have HIA := Go.Lib.hid (HI3.out.call HS5.out.below)
                go_upto_region 30 with (first
                  | (refine wpList_load_box rfl 31 _ rfl g7 rfl (sdL X3 A4 c4 B4 d4) _ HB7.out Try.underlying31 rfl info_sd ?_)
                  | (refine wpList_store_any rfl 31 _ _ rfl g 0 31 _ (sdL X3 A4 c4 B4 d4) _ rfl rfl rfl HIA.out.box info_sd (by show 0 + 3 ≤ 3; omega) (by simp [Value.oneCell']) ?_; intro w6 hb6 ho6; have HI6 := Go.Lib.hid (HI3.out.doc HS5.out ho6 hb6); have HB6 := Go.Lib.hid (HBA.out.only ho6 (by omega)); clear hb6))
                go_wp2_with fail
                go_meet
                exact ⟨X3, F3, A4, c4, B4, d4, hk3, HI6, HB6⟩
              · have tk : (kind == 0) = false := by simpa using k0
                by_cases k1 : kind = 1
                · have tk1 : (kind == 1) = true := by simpa using k1
                  obtain ⟨⟨X3, e3⟩, hq⟩ : ∃ q, setF11 X num at_ no = q := ⟨_, rfl⟩
                  have hk := hq ▸ set_keeps X num at_ no
                  have HQ := Go.Lib.hid hq
                  have te : (e3 != e3) = false := by simp
                  have hk3 : X3.slots.length ≤ 20 := by have := hk.2; dsimp only at this; omega
                  have b1 := HB2.out.box.cell 13 rfl
                  have b2 := HB2.out.box.cell 14 rfl
                  have b3 := HB2.out.box.cell 15 rfl
                  clear hq k0 k1 hk
                  go_upto_region 34 with (first
                    | (refine wpList_load_box rfl 31 _ rfl g rfl (sdL X A1 c1 B1 d1) _ HI2.out.box Try.underlying31 rfl info_sd ?_)
                    | (go_at_call 18; refine (rset12 X A1 c1 B1 d1 num at_ no W2 HI2.out.sd (by omega) _ HQ.out).mono ?_; rintro e w4 ⟨A4, c4, B4, d4, rfl, hs4⟩; have HS4 := Go.Lib.hid hs4; clear hs4; dsimp only))
                  have HS5 := Go.Lib.hid (HS4.out.more ((Below.refl _ _).alloc (Nat.le_refl _) (oSd X3 A4 c4 B4 d4)))
                  have HB7 := Go.Lib.hid (Bxo.made w4 31 (sdL X3 A4 c4 B4 d4))
                  have HBA := Go.Lib.hid (HB2.out.call HS5.out.below)
                  generalize w4.alloc (oSd X3 A4 c4 B4 d4) = w5 at *
                  generalize w4.heap.size = g7 at *
                  have HIA := Go.Lib.hid (HI2.out.call HS5.out.below)
                  clear b1 b2 b3
                  go_upto_region 35 with (first
                    | (refine wpList_load_box rfl 31 _ rfl g7 rfl (sdL X3 A4 c4 B4 d4) _ HB7.out Try.underlying31 rfl info_sd ?_)
                    | (refine wpList_store_any rfl 31 _ _ rfl g 0 31 _ (sdL X3 A4 c4 B4 d4) _ rfl rfl rfl HIA.out.box info_sd (by show 0 + 3 ≤ 3; omega) (by simp [Value.oneCell']) ?_; intro w6 hb6 ho6; have HI6 := Go.Lib.hid (HI2.out.doc HS5.out ho6 hb6); have HB6 := Go.Lib.hid (HBA.out.only ho6 (by omega)); clear hb6))
                  have b1 := HB6.out.box.cell 13 rfl
                  have b2 := HB6.out.box.cell 14 rfl
                  have b3 := HB6.out.box.cell 15 rfl
                  go_wp2_with (go_at_call 14; refine (K.set HI6.out.st.rep num at_ no _ HNR.out.2 HQ.out).mono ?_; rintro e w8 ⟨F8, rfl, r8, n8, m8⟩; have HI8 := Go.Lib.hid (HI6.out.turn r8 n8 m8); have HB8 := Go.Lib.hid (HB6.out.turn n8 m8); clear r8 n8 m8; dsimp only)
                  go_meet
                  exact ⟨X3, F8, A4, c4, B4, d4, hk3, HI8, HB8⟩
                · have tk1 : (kind == 1) = false := by simpa using k1
                  by_cases k2 : kind = 2
                  · have tk2 : (kind == 2) = true := by simpa using k2
                    obtain ⟨⟨X3, f3, e3⟩, hq⟩ : ∃ q, dropF X num = q := ⟨_, rfl⟩
                    have hk := hq ▸ drop_keeps X num
                    have HQ := Go.Lib.hid hq
                    have te : (e3 != e3) = false := by simp
                    have nev : ∀ W, (binOp .neq 40 (flV f3) (flV f3)).run Try.prog W = .ok (.bool false) W := fun W => (neFl f3 f3 W).trans (by rw [(sameFl_iff f3 f3).2 rfl]; rfl)
                    have hk3 : X3.slots.length ≤ 20 := by have := hk.2; dsimp only at this; omega
                    have b1 := HB2.out.box.cell 13 rfl
                    clear hq k0 k1 k2 hk
                    go_upto_region 39 with (first
                      | (refine wpList_load_box rfl 31 _ rfl g rfl (sdL X A1 c1 B1 d1) _ HI2.out.box Try.underlying31 rfl info_sd ?_)
                      | (go_at_call 19; refine (rdrop12 X A1 c1 B1 d1 num W2 HI2.out.sd (by omega) _ HQ.out).mono ?_; rintro e w4 ⟨A4, c4, B4, d4, rfl, hs4⟩; have HS4 := Go.Lib.hid hs4; clear hs4; dsimp only))
                    have y5 : Below w4.heap.size w4 ((w4.alloc (oSd X3 A4 c4 B4 d4)).alloc (oFl f3)) := below_alloc (below_alloc (Below.refl _ _) (Nat.le_refl _) _) (by simp) _
                    have HS5 := Go.Lib.hid (HS4.out.more y5)
                    have HB7 := Go.Lib.hid ((Bxo.made w4 31 (sdL X3 A4 c4 B4 d4)).alloc (oFl f3))
                    have hf7 : Bxo ((w4.alloc (oSd X3 A4 c4 B4 d4)).alloc (oFl f3)) (w4.heap.size + 1) 40 (flL f3) := by
                      have := Bxo.made (w4.alloc (oSd X3 A4 c4 B4 d4)) 40 (flL f3)
                      simpa using this
                    have hz4 := HS4.out.below.size
                    have HFA : Hid (Bxf F1 (w4.heap.size + 1) 40 (flL f3) ((w4.alloc (oSd X3 A4 c4 B4 d4)).alloc (oFl f3))) := Go.Lib.hid ⟨hf7, fun f => by have := K.lt HI2.out.st.rep _ f; omega⟩
                    have HBA := Go.Lib.hid (HB2.out.call HS5.out.below)
                    have hgl := HI2.out.box.lt
                    clear hf7 y5 b1
                    generalize (w4.alloc (oSd X3 A4 c4 B4 d4)).alloc (oFl f3) = w5 at *
                    generalize w4.heap.size = g7 at *
                    have HIA := Go.Lib.hid (HI2.out.call HS5.out.below)
                    go_upto_region 40 with (first
                      | (refine wpList_load_box rfl 31 _ rfl g7 rfl (sdL X3 A4 c4 B4 d4) _ HB7.out Try.underlying31 rfl info_sd ?_)
                      | (refine wpList_store_any rfl 31 _ _ rfl g 0 31 _ (sdL X3 A4 c4 B4 d4) _ rfl rfl rfl HIA.out.box info_sd (by show 0 + 3 ≤ 3; omega) (by simp [Value.oneCell']) ?_; intro w6 hb6 ho6; have HI6 := Go.Lib.hid (HI2.out.doc HS5.out ho6 hb6); have HB6 := Go.Lib.hid (HBA.out.only ho6 (by omega)); have HF6 := Go.Lib.hid (HFA.out.only ho6 (by omega)); clear hb6))
                    have b1 := HB6.out.box.cell 13 rfl
                    go_upto_region 41 with (go_at_call 12; refine (K.drop HI6.out.st.rep num _ HNR.out.2 HQ.out).mono ?_; rintro e w8 ⟨F8, rfl, r8, n8, m8⟩; have HI8 := Go.Lib.hid (HI6.out.turn r8 n8 m8); have HB8 := Go.Lib.hid (HB6.out.turn n8 m8); have HF8 := Go.Lib.hid (HF6.out.turn n8 m8); clear r8 n8 m8; dsimp only)
                    have y9 : Below w8.heap.size w8 (w8.alloc (oFl f3)) := (Below.refl _ _).alloc (Nat.le_refl _) _
                    have HI9 := Go.Lib.hid (HI8.out.call y9)
                    have HB9 := Go.Lib.hid (HB8.out.call y9)
                    have HF9 := Go.Lib.hid (HF8.out.call y9)
                    have HG9 := Go.Lib.hid (Bxo.made w8 40 (flL f3))
                    clear b1 y9
                    generalize w8.alloc (oFl f3) = w9 at *
                    generalize w8.heap.size = g9 at *
                    go_wp2_with (first
                      | (refine wpList_load_box rfl 40 _ rfl (g7 + 1) rfl (flL f3) _ HF9.out.box Try.underlying40 rfl info_fl ?_)
                      | (refine wpList_load_box rfl 40 _ rfl g9 rfl (flL f3) _ HG9.out Try.underlying40 rfl info_fl ?_))
                    go_meet
                    exact ⟨X3, F8, A4, c4, B4, d4, hk3, HI9, HB9⟩
                  · have tk2 : (kind == 2) = false := by simpa using k2
                    obtain ⟨⟨X3, D3, e3⟩, hq⟩ : ∃ q, tickF X at_ = q := ⟨_, rfl⟩
                    have hk := hq ▸ tick_keeps X at_
                    have HQ := Go.Lib.hid hq
                    have te : (e3 != e3) = false := by simp
                    have hk3 : X3.slots.length ≤ 20 := by have := hk.2; dsimp only at this; omega
                    have HSM := Go.Lib.hid ((sameFls_iff D3 D3).2 rfl)
                    have b2 := HB2.out.box.cell 14 rfl
                    clear hq k0 k1 k2 hk
                    go_upto_region 22 with (first
                      | (refine wpList_load_box rfl 31 _ rfl g rfl (sdL X A1 c1 B1 d1) _ HI2.out.box Try.underlying31 rfl info_sd ?_)
                      | (go_at_call 20; refine (rtick12 X A1 c1 B1 d1 at_ W2 HI2.out.sd (by omega) HI2.out.rows _ HQ.out).mono ?_; rintro e w4 ⟨A4, c4, B4, d4, G4, g4, rfl, hs4, hf4, hr4⟩; have HS4 := Go.Lib.hid hs4; have HFO : Hid (FlsOut F1 D3 G4 g4 w4) := Go.Lib.hid ⟨hf4, fun b e => ⟨(hr4 b e).2, fun f => by have h1 := (hr4 b e).1; have h2 := K.lt HI2.out.st.rep _ f; omega⟩⟩; have HFR := Go.Lib.hid hr4; clear hs4 hf4 hr4; dsimp only))
                    have HFO5 := Go.Lib.hid (HFO.out.call ((Below.refl _ _).alloc (Nat.le_refl _) (oSd X3 A4 c4 B4 d4)))
                    have HS5 := Go.Lib.hid (HS4.out.more ((Below.refl _ _).alloc (Nat.le_refl _) (oSd X3 A4 c4 B4 d4)))
                    have HB7 := Go.Lib.hid (Bxo.made w4 31 (sdL X3 A4 c4 B4 d4))
                    have HBA := Go.Lib.hid (HB2.out.call HS5.out.below)
                    generalize w4.alloc (oSd X3 A4 c4 B4 d4) = w5 at *
                    generalize w4.heap.size = g7 at *
                    have HIA := Go.Lib.hid (HI2.out.call HS5.out.below)
                    clear b2
                    have hgl := HI2.out.box.lt
                    go_upto_region 23 with (first
                      | (refine wpList_load_box rfl 31 _ rfl g7 rfl (sdL X3 A4 c4 B4 d4) _ HB7.out Try.underlying31 rfl info_sd ?_)
                      | (refine wpList_store_any rfl 31 _ _ rfl g 0 31 _ (sdL X3 A4 c4 B4 d4) _ rfl rfl rfl HIA.out.box info_sd (by show 0 + 3 ≤ 3; omega) (by simp [Value.oneCell']) ?_; intro w6 hb6 ho6; have HI6 := Go.Lib.hid (HI2.out.doc HS5.out ho6 hb6); have HB6 := Go.Lib.hid (HBA.out.only ho6 (by omega)); have HFO6 := Go.Lib.hid (HFO5.out.only ho6 (fun b e => by have := (HFR.out b e).1; omega)); clear hb6))
                    have b2 := HB6.out.box.cell 14 rfl
                    go_wp2_with (first
                      | (go_at_call 13; refine (K.tick HI6.out.st.rep at_ _ HQ.out).mono ?_; rintro e w8 ⟨F8, A8, c8, rfl, d8, r8, n8, m8⟩; have HI8 := Go.Lib.hid (HI6.out.turn r8 n8 m8); have HB8 := Go.Lib.hid (HB6.out.turn n8 m8); have HFO8 := Go.Lib.hid (HFO6.out.turn n8 m8); have HD8 := Go.Lib.hid d8.fls; clear r8 n8 m8 d8; dsimp only)
                      | (go_at_call 21; refine (rsame12 D3 A8 c8 D3 G4 g4 w8 HD8.out HFO8.out.fls true HSM.out).mono ?_; rintro e w9 ⟨rfl, y9⟩; have HI9 := Go.Lib.hid (HI8.out.call y9); have HB9 := Go.Lib.hid (HB8.out.call y9); dsimp only))
                    go_meet
                    exact ⟨X3, F8, A4, c4, B4, d4, hk3, HI9, HB9⟩
          case rest =>
            as_aux_lemma =>
              obtain ⟨X2, F2, A2, c2, B2, d2, hX2, HI3, HB3⟩ := hcut
              clear HI2 HB2
              obtain ⟨⟨n1, bk1, o1⟩, hq⟩ : ∃ q, findS X2 fl.there = q := ⟨_, rfl⟩
              have HQ := Go.Lib.hid hq
              have tn : (n1 != n1) = false := by simp
              have tb : (bk1 != bk1) = false := by simp
              have tk9 : (o1 != o1) = false := by simp
              obtain ⟨l, hl⟩ : ∃ l, allF X2.slots = l := ⟨_, rfl⟩
              have HLD := Go.Lib.hid hl
              have HLN : Hid (((allF X2.slots).length : Int) = (l.length : Int)) := Go.Lib.hid (by rw [hl])
              have HSM := Go.Lib.hid ((sameFls_iff l l).2 rfl)
              have tl : ((l.length : Int) != (l.length : Int)) = false := by simp
              have tf : (false != false) = false := rfl
              have tt : (true != true) = false := rfl
              clear hq hl
              cases ho : thereF X2 num with
              | none =>
                have HO := Go.Lib.hid ho
                have HT : Hid ((thereF X2 num).isSome = false) := Go.Lib.hid (by rw [ho]; rfl)
                clear ho
                go_upto_region 44 with (first
                  | (refine wpList_load_at rfl 38 _ rfl (⟨ga, 1, none⟩) rfl (tpL fl.there) _ (fl_there HB3.out.box.flow) Try.underlying38 rfl info_tp ?_)
                  | (go_at_call 10; refine (K.find HI3.out.st.rep fl.there _ HNR.out.1.there HQ.out).mono ?_; rintro e w4 ⟨rfl, y4⟩; have HI4 := Go.Lib.hid (HI3.out.call y4); have HB4 := Go.Lib.hid (HB3.out.call y4); dsimp only))
                go_upto_region 45 with (first
                  | (refine wpList_load_box rfl 31 _ rfl g rfl (sdL X2 A2 c2 B2 d2) _ HI4.out.box Try.underlying31 rfl info_sd ?_)
                  | (refine wpList_load_at rfl 38 _ rfl (⟨ga, 1, none⟩) rfl (tpL fl.there) _ (fl_there HB4.out.box.flow) Try.underlying38 rfl info_tp ?_)
                  | (go_at_call 22; refine (rfind12 X2 A2 c2 B2 d2 fl.there w4 HI4.out.sd _ HQ.out).mono ?_; rintro e w5 ⟨rfl, y5⟩; have HI5 := Go.Lib.hid (HI4.out.call y5); have HB5 := Go.Lib.hid (HB4.out.call y5); dsimp only))
                have b13 := HB5.out.box.cell 13 rfl
                go_upto_region 46 with (go_at_call 11; refine (K.get HI5.out.st.rep num _ HNR.out.2 HO.out).mono ?_; rintro e w6 ⟨rfl, y6⟩; have HI6 := Go.Lib.hid (HI5.out.call y6); have HB6 := Go.Lib.hid (HB5.out.call y6); dsimp only)
                have y7 : Below w6.heap.size w6 (w6.alloc (oFl fl0)) := (Below.refl _ _).alloc (Nat.le_refl _) _
                have HI6 := Go.Lib.hid (HI6.out.call y7)
                have HB6 := Go.Lib.hid (HB6.out.call y7)
                have HG6 := Go.Lib.hid (Bxo.made w6 40 (flL fl0))
                clear b13 y4 y5 y6 y7
                generalize w6.alloc (oFl fl0) = W6 at *
                generalize w6.heap.size = g6 at *
                try simp only [Act.put, List.setIfInBounds_toArray, List.set_cons_zero, List.set_cons_succ]
                refine wp_region_held_drew (S := fun Y => Below W6.heap.size W6 Y) (by kernel_rfl) ?_ (fun hHeld => ?_)
                · exact below_drew (Below.refl _ _)
                refine wpAnyH_take (i := 0) (oi := ⟨some 290, _, _, _, _, _⟩) (v := ?_) rfl (by kernel_rfl) (by kernel_rfl) (by kernel_rfl) (fun _ _ _ h => h) (Or.inl ⟨by rfl, ?_⟩) (by assumption) ?_
                rotate_left
                · intro w hSw; (try dsimp only at hSw); go_simp; (try with_reducible rfl)
                try simp only [Act.put, List.setIfInBounds_toArray, List.set_cons_zero, List.set_cons_succ]
                refine wpAnyH_take (i := 1) (oi := ⟨some 291, _, _, _, _, _⟩) (v := ?_) rfl (by kernel_rfl) (by kernel_rfl) (by kernel_rfl) (fun _ _ _ h => h) (Or.inl ⟨by rfl, ?_⟩) (by assumption) ?_
                rotate_left
                · intro w hSw; (try dsimp only at hSw); go_simp; (try with_reducible rfl)
                try simp only [Act.put, List.setIfInBounds_toArray, List.set_cons_zero, List.set_cons_succ]
                refine wpAnyH_take (i := 2) (oi := ⟨some 292, _, _, _, _, _⟩) (v := ?_) rfl (by kernel_rfl) (by kernel_rfl) (by kernel_rfl) (fun _ _ _ h => h) (Or.inl ⟨by rfl, ?_⟩) (by assumption) ?_
                rotate_left
                · intro w hSw; (try dsimp only at hSw); go_simp; (try with_reducible rfl)
                try simp only [Act.put, List.setIfInBounds_toArray, List.set_cons_zero, List.set_cons_succ]
                refine wpAnyH_take (i := 3) (oi := ⟨some 293, _, _, _, _, _⟩) (v := ?_) rfl (by kernel_rfl) (by kernel_rfl) (by kernel_rfl) (fun _ _ _ h => h) (Or.inl ⟨by rfl, ?_⟩) (by assumption) ?_
                rotate_left
                · intro w hSw; (try dsimp only at hSw); go_simp; (try with_reducible rfl)
                try simp only [Act.put, List.setIfInBounds_toArray, List.set_cons_zero, List.set_cons_succ]
                refine wpAnyH_take (i := 4) (oi := ⟨some 294, _, _, _, _, _⟩) (v := ?_) rfl (by kernel_rfl) (by kernel_rfl) (by kernel_rfl) (fun _ _ _ h => h) (Or.inl ⟨by rfl, ?_⟩) (by assumption) ?_
                rotate_left
                · intro w hSw; (try dsimp only at hSw); go_simp; (try with_reducible rfl)
                try simp only [Act.put, List.setIfInBounds_toArray, List.set_cons_zero, List.set_cons_succ]
                refine wpAnyH_take (i := 5) (oi := ⟨some 295, _, _, _, _, _⟩) (v := ?_) rfl (by kernel_rfl) (by kernel_rfl) (by kernel_rfl) (fun _ _ _ h => h) (Or.inl ⟨by rfl, ?_⟩) (by assumption) ?_
                rotate_left
                · intro w hSw; (try dsimp only at hSw); go_simp; (try with_reducible rfl)
                try simp only [Act.put, List.setIfInBounds_toArray, List.set_cons_zero, List.set_cons_succ]
                refine wpAnyH_take (i := 6) (oi := ⟨some 296, _, _, _, _, _⟩) (v := ?_) rfl (by kernel_rfl) (by kernel_rfl) (by kernel_rfl) (fun _ _ _ h => h) (Or.inl ⟨by rfl, ?_⟩) (by assumption) ?_
                rotate_left
                · intro w hSw; (try dsimp only at hSw); go_simp; (try with_reducible rfl)
                try simp only [Act.put, List.setIfInBounds_toArray, List.set_cons_zero, List.set_cons_succ]
                refine wpAnyH_take (i := 7) (oi := ⟨some 297, _, _, _, _, _⟩) (v := ?_) rfl (by kernel_rfl) (by kernel_rfl) (by kernel_rfl) (fun _ _ _ h => h) (Or.inl ⟨by rfl, ?_⟩) (by assumption) ?_
                rotate_left
                · intro w hSw; (try dsimp only at hSw); go_simp; (try with_reducible rfl)
                try simp only [Act.put, List.setIfInBounds_toArray, List.set_cons_zero, List.set_cons_succ]
                refine wpAnyH_take (i := 8) (oi := ⟨some 298, _, _, _, _, _⟩) (v := ?_) rfl (by kernel_rfl) (by kernel_rfl) (by kernel_rfl) (fun _ _ _ h => h) (Or.inl ⟨by rfl, ?_⟩) (by assumption) ?_
                rotate_left
                · intro w hSw; (try dsimp only at hSw); go_simp; (try with_reducible rfl)
                try simp only [Act.put, List.setIfInBounds_toArray, List.set_cons_zero, List.set_cons_succ]
                refine wpAnyH_take (i := 9) (oi := ⟨some 299, _, _, _, _, _⟩) (v := ?_) rfl (by kernel_rfl) (by kernel_rfl) (by kernel_rfl) (fun _ _ _ h => h) (Or.inl ⟨by rfl, ?_⟩) (by assumption) ?_
                rotate_left
                · intro w hSw; (try dsimp only at hSw); go_simp; (try with_reducible rfl)
                try simp only [Act.put, List.setIfInBounds_toArray, List.set_cons_zero, List.set_cons_succ]
                refine wpAnyH_take (i := 10) (oi := ⟨some 300, _, _, _, _, _⟩) (v := ?_) rfl (by kernel_rfl) (by kernel_rfl) (by kernel_rfl) (fun _ _ _ h => h) (Or.inl ⟨by rfl, ?_⟩) (by assumption) ?_
                rotate_left
                · intro w hSw; (try dsimp only at hSw); go_simp; (try with_reducible rfl)
                try simp only [Act.put, List.setIfInBounds_toArray, List.set_cons_zero, List.set_cons_succ]
                refine wpAnyH_take (i := 11) (oi := ⟨some 301, _, _, _, _, _⟩) (v := ?_) rfl (by kernel_rfl) (by kernel_rfl) (by kernel_rfl) (fun _ _ _ h => h) (Or.inl ⟨by rfl, ?_⟩) (by assumption) ?_
                rotate_left
                · intro w hSw; (try dsimp only at hSw); go_simp; (try with_reducible rfl)
                try simp only [Act.put, List.setIfInBounds_toArray, List.set_cons_zero, List.set_cons_succ]
                refine wpAnyH_take (i := 12) (oi := ⟨some 302, _, _, _, _, _⟩) (v := ?_) rfl (by kernel_rfl) (by kernel_rfl) (by kernel_rfl) (fun _ _ _ h => h) (Or.inl ⟨by rfl, ?_⟩) (by assumption) ?_
                rotate_left
                · intro w hSw; (try dsimp only at hSw); go_simp; (try with_reducible rfl)
                try simp only [Act.put, List.setIfInBounds_toArray, List.set_cons_zero, List.set_cons_succ]
                refine wpAnyH_take (i := 13) (oi := ⟨some 303, _, _, _, _, _⟩) (v := ?_) rfl (by kernel_rfl) (by kernel_rfl) (by kernel_rfl) (fun _ _ _ h => h) (Or.inl ⟨by rfl, ?_⟩) (by assumption) ?_
                rotate_left
                · intro w hSw; (try dsimp only at hSw); go_simp; (try with_reducible rfl)
                try simp only [Act.put, List.setIfInBounds_toArray, List.set_cons_zero, List.set_cons_succ]
                refine wpAnyH_take (i := 14) (oi := ⟨some 304, _, _, _, _, _⟩) (v := ?_) rfl (by kernel_rfl) (by kernel_rfl) (by kernel_rfl) (fun _ _ _ h => h) (Or.inl ⟨by rfl, ?_⟩) (by assumption) ?_
                rotate_left
                · intro w hSw; (try dsimp only at hSw); go_simp; (try with_reducible rfl)
                try simp only [Act.put, List.setIfInBounds_toArray, List.set_cons_zero, List.set_cons_succ]
                refine wpAnyH_take (i := 15) (oi := ⟨some 305, _, _, _, _, _⟩) (v := (sdV X2 A2 c2 B2 d2)) rfl (by kernel_rfl) (by kernel_rfl) (by kernel_rfl) (fun _ _ _ h => h) (yieldsIf_load_at (by rfl) 31 _ rfl ⟨g, 0, none⟩ rfl (sdL X2 A2 c2 B2 d2) _ (fun Y h => (HI6.out.box.keep h HI6.out.box.lt).at) Try.underlying31 rfl info_sd) (by assumption) ?_
                try simp only [Act.put, List.setIfInBounds_toArray, List.set_cons_zero, List.set_cons_succ]
                refine wpAnyH_take (i := 16) (oi := ⟨some 306, _, _, _, _, _⟩) (v := ?_) rfl (by kernel_rfl) (by kernel_rfl) (by kernel_rfl) (fun _ _ _ h => h) (Or.inl ⟨by rfl, ?_⟩) (by assumption) ?_
                rotate_left
                · intro w hSw; (try dsimp only at hSw); go_simp; (try with_reducible rfl)
                try simp only [Act.put, List.setIfInBounds_toArray, List.set_cons_zero, List.set_cons_succ]
                refine wpAnyH_take (i := 17) (oi := ⟨some 307, _, _, _, _, _⟩) (v := ?_) rfl (by kernel_rfl) (by kernel_rfl) (by kernel_rfl) (fun _ _ _ h => h) (Or.inl ⟨by rfl, ?_⟩) (by assumption) ?_
                rotate_left
                · intro w hSw; have zc := (HB6.out.box.keep hSw HB6.out.box.lt).cell 13 rfl; (try dsimp only at hSw); go_simp; (try with_reducible rfl)
                try simp only [Act.put, List.setIfInBounds_toArray, List.set_cons_zero, List.set_cons_succ]
                refine wpAnyH_ready (rs := [18]) (by kernel_rfl) (by simp) (AllReadyH.cons (o := ⟨some 308, _, _, _, _, _⟩) rfl (fun Kc hKc => ?_) AllReadyH.nil)
                go_simp
                go_at_call 23; refine (rthere12 X2 A2 c2 B2 d2 num _ (HI6.out.sd.at hHeld) false HT.out).mono ?_; rintro e w9 ⟨rfl, y9⟩; dsimp only
                refine hKc.out _ _ (hHeld.trans (y9.mono hHeld.size)) (fun hHeld => ?_)
                clear hKc Kc
                try simp only [Act.put, List.setIfInBounds_toArray, List.set_cons_zero, List.set_cons_succ]
                refine wpAnyH_take (i := 19) (oi := ⟨some 309, _, _, _, _, _⟩) (v := ?_) rfl (by kernel_rfl) (by kernel_rfl) (by kernel_rfl) (fun _ _ _ h => h) (Or.inl ⟨by rfl, ?_⟩) (by assumption) ?_
                rotate_left
                · intro w hSw; (try dsimp only at hSw); go_simp; (try with_reducible rfl)
                try simp only [Act.put, List.setIfInBounds_toArray, List.set_cons_zero, List.set_cons_succ]
                refine wpAnyH_take (i := 20) (oi := ⟨some 310, _, _, _, _, _⟩) (v := ?_) rfl (by kernel_rfl) (by kernel_rfl) (by kernel_rfl) (fun _ _ _ h => h) (Or.inl ⟨by rfl, ?_⟩) (by assumption) ?_
                rotate_left
                · intro w hSw; (try dsimp only at hSw); go_simp; (try with_reducible rfl)
                try simp only [Act.put, List.setIfInBounds_toArray, List.set_cons_zero, List.set_cons_succ]
                refine wpAnyH_take (i := 21) (oi := ⟨some 311, _, _, _, _, _⟩) (v := ?_) rfl (by kernel_rfl) (by kernel_rfl) (by kernel_rfl) (fun _ _ _ h => h) (Or.inl ⟨by rfl, ?_⟩) (by assumption) ?_
                rotate_left
                · intro w hSw; (try dsimp only at hSw); go_simp; (try with_reducible rfl)
                try simp only [Act.put, List.setIfInBounds_toArray, List.set_cons_zero, List.set_cons_succ]
                refine wpAnyH_take (i := 22) (oi := ⟨some 312, _, _, _, _, _⟩) (v := ?_) rfl (by kernel_rfl) (by kernel_rfl) (by kernel_rfl) (fun _ _ _ h => h) (Or.inl ⟨by rfl, ?_⟩) (by assumption) ?_
                rotate_left
                · intro w hSw; (try dsimp only at hSw); go_simp; (try with_reducible rfl)
                try simp only [Act.put, List.setIfInBounds_toArray, List.set_cons_zero, List.set_cons_succ]
                refine wpAnyH_take (i := 23) (oi := ⟨some 313, _, _, _, _, _⟩) (v := ?_) rfl (by kernel_rfl) (by kernel_rfl) (by kernel_rfl) (fun _ _ _ h => h) (Or.inl ⟨by rfl, ?_⟩) (by assumption) ?_
                rotate_left
                · intro w hSw; (try dsimp only at hSw); go_simp; (try with_reducible rfl)
                try simp only [Act.put, List.setIfInBounds_toArray, List.set_cons_zero, List.set_cons_succ]
                refine wpAnyH_take (i := 24) (oi := ⟨some 314, _, _, _, _, _⟩) (v := undef) rfl (by kernel_rfl) (by kernel_rfl) (by kernel_rfl) (fun _ _ _ h => h) (Or.inr ⟨by rfl, rfl⟩) (by assumption) ?_
                try simp only [Act.put, List.setIfInBounds_toArray, List.set_cons_zero, List.set_cons_succ]
                refine wpAnyH_take (i := 25) (oi := ⟨some 315, _, _, _, _, _⟩) (v := undef) rfl (by kernel_rfl) (by kernel_rfl) (by kernel_rfl) (fun _ _ _ h => h) (Or.inr ⟨by rfl, rfl⟩) (by assumption) ?_
                try simp only [Act.put, List.setIfInBounds_toArray, List.set_cons_zero, List.set_cons_succ]
                refine wpAnyH_take (i := 26) (oi := ⟨some 316, _, _, _, _, _⟩) (v := undef) rfl (by kernel_rfl) (by kernel_rfl) (by kernel_rfl) (fun _ _ _ h => h) (Or.inr ⟨by rfl, rfl⟩) (by assumption) ?_
                try simp only [Act.put, List.setIfInBounds_toArray, List.set_cons_zero, List.set_cons_succ]
                refine wpAnyH_take (i := 27) (oi := ⟨some 317, _, _, _, _, _⟩) (v := undef) rfl (by kernel_rfl) (by kernel_rfl) (by kernel_rfl) (fun _ _ _ h => h) (Or.inr ⟨by rfl, rfl⟩) (by assumption) ?_
                try simp only [Act.put, List.setIfInBounds_toArray, List.set_cons_zero, List.set_cons_succ]
                refine wpAnyH_take (i := 28) (oi := ⟨some 318, _, _, _, _, _⟩) (v := undef) rfl (by kernel_rfl) (by kernel_rfl) (by kernel_rfl) (fun _ _ _ h => h) (Or.inr ⟨by rfl, rfl⟩) (by assumption) ?_
                try simp only [Act.put, List.setIfInBounds_toArray, List.set_cons_zero, List.set_cons_succ]
                refine wpAnyH_take (i := 29) (oi := ⟨some 319, _, _, _, _, _⟩) (v := undef) rfl (by kernel_rfl) (by kernel_rfl) (by kernel_rfl) (fun _ _ _ h => h) (Or.inr ⟨by rfl, rfl⟩) (by assumption) ?_
                try simp only [Act.put, List.setIfInBounds_toArray, List.set_cons_zero, List.set_cons_succ]
                refine wpAnyH_take (i := 30) (oi := ⟨some 320, _, _, _, _, _⟩) (v := undef) rfl (by kernel_rfl) (by kernel_rfl) (by kernel_rfl) (fun _ _ _ h => h) (Or.inr ⟨by rfl, rfl⟩) (by assumption) ?_
                try simp only [Act.put, List.setIfInBounds_toArray, List.set_cons_zero, List.set_cons_succ]
                refine wpAnyH_take (i := 31) (oi := ⟨some 321, _, _, _, _, _⟩) (v := undef) rfl (by kernel_rfl) (by kernel_rfl) (by kernel_rfl) (fun _ _ _ h => h) (Or.inr ⟨by rfl, rfl⟩) (by assumption) ?_
                try simp only [Act.put, List.setIfInBounds_toArray, List.set_cons_zero, List.set_cons_succ]
                refine wpAnyH_take (i := 32) (oi := ⟨some 322, _, _, _, _, _⟩) (v := ?_) rfl (by kernel_rfl) (by kernel_rfl) (by kernel_rfl) (fun _ _ _ h => h) (Or.inl ⟨by rfl, ?_⟩) (by assumption) ?_
                rotate_left
                · intro w hSw; (try dsimp only at hSw); go_simp; (try with_reducible rfl)
                try simp only [Act.put, List.setIfInBounds_toArray, List.set_cons_zero, List.set_cons_succ]
                refine wpAnyH_take (i := 33) (oi := ⟨some 323, _, _, _, _, _⟩) (v := ?_) rfl (by kernel_rfl) (by kernel_rfl) (by kernel_rfl) (fun _ _ _ h => h) (Or.inl ⟨by rfl, ?_⟩) (by assumption) ?_
                rotate_left
                · intro w hSw; (try dsimp only at hSw); go_simp; (try with_reducible rfl)
                try simp only [Act.put, List.setIfInBounds_toArray, List.set_cons_zero, List.set_cons_succ]
                refine wpAnyH_done (by kernel_rfl) ?_ _
                have yq := hHeld
                clear hHeld
                have HI9 := Go.Lib.hid (HI6.out.call yq)
                go_upto_region 48 with fail
                try simp only [Act.put, List.setIfInBounds_toArray, List.set_cons_zero, List.set_cons_succ]
                refine wp_region_held_drew (S := fun Y => Below w9.heap.size w9 Y) (by kernel_rfl) ?_ (fun hHeld => ?_)
                · exact below_drew (Below.refl _ _)
                refine wpAnyH_take (i := 0) (oi := ⟨some 324, _, _, _, _, _⟩) (v := ?_) rfl (by kernel_rfl) (by kernel_rfl) (by kernel_rfl) (fun _ _ _ h => h) (Or.inl ⟨by rfl, ?_⟩) (by assumption) ?_
                rotate_left
                · intro w hSw; (try dsimp only at hSw); go_simp; (try with_reducible rfl)
                try simp only [Act.put, List.setIfInBounds_toArray, List.set_cons_zero, List.set_cons_succ]
                refine wpAnyH_take (i := 2) (oi := ⟨some 326, _, _, _, _, _⟩) (v := (sdV X2 A2 c2 B2 d2)) rfl (by kernel_rfl) (by kernel_rfl) (by kernel_rfl) (fun _ _ _ h => h) (yieldsIf_load_at (by rfl) 31 _ rfl ⟨g, 0, none⟩ rfl (sdL X2 A2 c2 B2 d2) _ (fun Y h => (HI9.out.box.keep h HI9.out.box.lt).at) Try.underlying31 rfl info_sd) (by assumption) ?_
                try simp only [Act.put, List.setIfInBounds_toArray, List.set_cons_zero, List.set_cons_succ]
                refine wpAnyH_ready (rs := [1]) (by kernel_rfl) (by simp) (AllReadyH.cons (o := ⟨some 325, _, _, _, _, _⟩) rfl (fun Kc hKc => ?_) AllReadyH.nil)
                go_simp
                go_at_call 15; refine (K.all_ (HI9.out.call hHeld).st.rep l HLD.out).mono ?_; rintro e w10 ⟨A10, c10, rfl, hf10, y10⟩; have HF10 := Go.Lib.hid hf10; clear hf10; dsimp only
                refine hKc.out _ _ (hHeld.trans (y10.mono hHeld.size)) (fun hHeld => ?_)
                clear hKc Kc
                try simp only [Act.put, List.setIfInBounds_toArray, List.set_cons_zero, List.set_cons_succ]
                refine wpAnyH_ready (rs := [3]) (by kernel_rfl) (by simp) (AllReadyH.cons (o := ⟨some 327, _, _, _, _, _⟩) rfl (fun Kc hKc => ?_) AllReadyH.nil)
                go_simp
                go_at_call 24; refine (rall12 X2 A2 c2 B2 d2 _ (HI9.out.call hHeld).sd (by omega) l HLD.out).mono ?_; rintro e w11 ⟨A11, c11, rfl, hf11, y11, _⟩; have HF11 := Go.Lib.hid hf11; have HF10 := Go.Lib.hid (HF10.out.at y11); clear hf11; dsimp only
                refine hKc.out _ _ (hHeld.trans (y11.mono hHeld.size)) (fun hHeld => ?_)
                clear hKc Kc
                try simp only [Act.put, List.setIfInBounds_toArray, List.set_cons_zero, List.set_cons_succ]
                refine wpAnyH_ready (rs := [4]) (by kernel_rfl) (by simp) (AllReadyH.cons (o := ⟨some 328, _, _, _, _, _⟩) rfl (fun Kc hKc => ?_) AllReadyH.nil)
                go_simp
                go_at_call 21; refine (rsame12 l A10 c10 l A11 c11 _ HF10.out HF11.out true HSM.out).mono ?_; rintro e w12 ⟨rfl, y12⟩; dsimp only
                refine hKc.out _ _ (hHeld.trans (y12.mono hHeld.size)) (fun hHeld => ?_)
                clear hKc Kc
                try simp only [Act.put, List.setIfInBounds_toArray, List.set_cons_zero, List.set_cons_succ]
                refine wpAnyH_take (i := 5) (oi := ⟨some 329, _, _, _, _, _⟩) (v := ?_) rfl (by kernel_rfl) (by kernel_rfl) (by kernel_rfl) (fun _ _ _ h => h) (Or.inl ⟨by rfl, ?_⟩) (by assumption) ?_
                rotate_left
                · intro w hSw; (try dsimp only at hSw); go_simp; (try with_reducible rfl)
                try simp only [Act.put, List.setIfInBounds_toArray, List.set_cons_zero, List.set_cons_succ]
                refine wpAnyH_take (i := 6) (oi := ⟨some 330, _, _, _, _, _⟩) (v := ?_) rfl (by kernel_rfl) (by kernel_rfl) (by kernel_rfl) (fun _ _ _ h => h) (Or.inl ⟨by rfl, ?_⟩) (by assumption) ?_
                rotate_left
                · intro w hSw; (try dsimp only at hSw); go_simp; (try with_reducible rfl)
                try simp only [Act.put, List.setIfInBounds_toArray, List.set_cons_zero, List.set_cons_succ]
                refine wpAnyH_take (i := 7) (oi := ⟨some 331, _, _, _, _, _⟩) (v := ?_) rfl (by kernel_rfl) (by kernel_rfl) (by kernel_rfl) (fun _ _ _ h => h) (Or.inl ⟨by rfl, ?_⟩) (by assumption) ?_
                rotate_left
                · intro w hSw; (try dsimp only at hSw); go_simp; (try with_reducible rfl)
                try simp only [Act.put, List.setIfInBounds_toArray, List.set_cons_zero, List.set_cons_succ]
                refine wpAnyH_take (i := 9) (oi := ⟨some 333, _, _, _, _, _⟩) (v := (sdV X2 A2 c2 B2 d2)) rfl (by kernel_rfl) (by kernel_rfl) (by kernel_rfl) (fun _ _ _ h => h) (yieldsIf_load_at (by rfl) 31 _ rfl ⟨g, 0, none⟩ rfl (sdL X2 A2 c2 B2 d2) _ (fun Y h => (HI9.out.box.keep h HI9.out.box.lt).at) Try.underlying31 rfl info_sd) (by assumption) ?_
                try simp only [Act.put, List.setIfInBounds_toArray, List.set_cons_zero, List.set_cons_succ]
                refine wpAnyH_ready (rs := [8]) (by kernel_rfl) (by simp) (AllReadyH.cons (o := ⟨some 332, _, _, _, _, _⟩) rfl (fun Kc hKc => ?_) AllReadyH.nil)
                go_simp
                go_at_call 16; refine (K.len_ (HI9.out.call hHeld).st.rep _ HLN.out).mono ?_; rintro e w13 ⟨rfl, y13⟩; dsimp only
                refine hKc.out _ _ (hHeld.trans (y13.mono hHeld.size)) (fun hHeld => ?_)
                clear hKc Kc
                try simp only [Act.put, List.setIfInBounds_toArray, List.set_cons_zero, List.set_cons_succ]
                refine wpAnyH_ready (rs := [10]) (by kernel_rfl) (by simp) (AllReadyH.cons (o := ⟨some 334, _, _, _, _, _⟩) rfl (fun Kc hKc => ?_) AllReadyH.nil)
                go_simp
                go_at_call 24; refine (rall12 X2 A2 c2 B2 d2 _ (HI9.out.call hHeld).sd (by omega) l HLD.out).mono ?_; rintro e w14 ⟨A14, c14, rfl, hf14, y14, _⟩; dsimp only
                refine hKc.out _ _ (hHeld.trans (y14.mono hHeld.size)) (fun hHeld => ?_)
                clear hKc Kc
                try simp only [Act.put, List.setIfInBounds_toArray, List.set_cons_zero, List.set_cons_succ]
                refine wpAnyH_take (i := 11) (oi := ⟨some 335, _, _, _, _, _⟩) (v := ?_) rfl (by kernel_rfl) (by kernel_rfl) (by kernel_rfl) (fun _ _ _ h => h) (Or.inl ⟨by rfl, ?_⟩) (by assumption) ?_
                rotate_left
                · intro w hSw; (try dsimp only at hSw); go_simp; (try with_reducible rfl)
                try simp only [Act.put, List.setIfInBounds_toArray, List.set_cons_zero, List.set_cons_succ]
                refine wpAnyH_take (i := 12) (oi := ⟨some 336, _, _, _, _, _⟩) (v := ?_) rfl (by kernel_rfl) (by kernel_rfl) (by kernel_rfl) (fun _ _ _ h => h) (Or.inl ⟨by rfl, ?_⟩) (by assumption) ?_
                rotate_left
                · intro w hSw; (try dsimp only at hSw); go_simp; (try with_reducible rfl)
                try simp only [Act.put, List.setIfInBounds_toArray, List.set_cons_zero, List.set_cons_succ]
                refine wpAnyH_take (i := 13) (oi := ⟨some 337, _, _, _, _, _⟩) (v := ?_) rfl (by kernel_rfl) (by kernel_rfl) (by kernel_rfl) (fun _ _ _ h => h) (Or.inl ⟨by rfl, ?_⟩) (by assumption) ?_
                rotate_left
                · intro w hSw; (try dsimp only at hSw); go_simp; (try with_reducible rfl)
                try simp only [Act.put, List.setIfInBounds_toArray, List.set_cons_zero, List.set_cons_succ]
                refine wpAnyH_done (by kernel_rfl) ?_ _
                have yq := hHeld
                clear hHeld
                go_wp2
                go_round
                case rel => exact ⟨i + 1, X2, F2, A2, c2, B2, d2, by go_num, by omega, by omega, hX2, Go.Lib.hid (HI9.out.call yq)⟩
                case measure => simp [intOf]; omega
              | some f =>
                obtain ⟨p, rfl, hps⟩ := there_iff ho
                have HO := Go.Lib.hid ho
                have HT : Hid ((thereF X2 (p : Int)).isSome = true) := Go.Lib.hid (by rw [ho]; rfl)
                have hpl := slot_lt hps
                have HPS := Go.Lib.hid hps
                have HPI : Hid (I64 (p : Int)) := Go.Lib.hid (by have h2 := (K.right HI3.out.st.rep).room; unfold I64; omega)
                obtain ⟨b2, rfl, _⟩ := HI3.out.sd.fcell hpl
                have hd2 := HI3.out.sd.flen
                have p1 : (0 : Int) ≤ (p : Int) := by omega
                have p2 : (p : Int) < (X2.slots.length : Int) := by omega
                have nev : ∀ W, (binOp .neq 40 (flV f) (flV f)).run Try.prog W = .ok (.bool false) W := fun W => (neFl f f W).trans (by rw [(sameFl_iff f f).2 rfl]; rfl)
                clear ho hps
                go_upto_region 44 with (first
                  | (refine wpList_load_at rfl 38 _ rfl (⟨ga, 1, none⟩) rfl (tpL fl.there) _ (fl_there HB3.out.box.flow) Try.underlying38 rfl info_tp ?_)
                  | (go_at_call 10; refine (K.find HI3.out.st.rep fl.there _ HNR.out.1.there HQ.out).mono ?_; rintro e w4 ⟨rfl, y4⟩; have HI4 := Go.Lib.hid (HI3.out.call y4); have HB4 := Go.Lib.hid (HB3.out.call y4); dsimp only))
                go_upto_region 45 with (first
                  | (refine wpList_load_box rfl 31 _ rfl g rfl (sdL X2 A2 c2 (some b2) d2) _ HI4.out.box Try.underlying31 rfl info_sd ?_)
                  | (refine wpList_load_at rfl 38 _ rfl (⟨ga, 1, none⟩) rfl (tpL fl.there) _ (fl_there HB4.out.box.flow) Try.underlying38 rfl info_tp ?_)
                  | (go_at_call 22; refine (rfind12 X2 A2 c2 (some b2) d2 fl.there w4 HI4.out.sd _ HQ.out).mono ?_; rintro e w5 ⟨rfl, y5⟩; have HI5 := Go.Lib.hid (HI4.out.call y5); have HB5 := Go.Lib.hid (HB4.out.call y5); dsimp only))
                have b13 := HB5.out.box.cell 13 rfl
                go_upto_region 46 with (go_at_call 11; refine (K.get HI5.out.st.rep (p : Int) _ HPI.out HO.out).mono ?_; rintro e w6 ⟨rfl, y6⟩; have HI6 := Go.Lib.hid (HI5.out.call y6); have HB6 := Go.Lib.hid (HB5.out.call y6); dsimp only)
                have y7 : Below w6.heap.size w6 (w6.alloc (oFl f)) := (Below.refl _ _).alloc (Nat.le_refl _) _
                have HI6 := Go.Lib.hid (HI6.out.call y7)
                have HB6 := Go.Lib.hid (HB6.out.call y7)
                have HG6 := Go.Lib.hid (Bxo.made w6 40 (flL f))
                clear b13 y4 y5 y6 y7
                generalize w6.alloc (oFl f) = W6 at *
                generalize w6.heap.size = g6 at *
                have HFC : Hid (∀ Y, Below W6.heap.size W6 Y → ∀ j v, (flL f)[j]? = some v → Y.cell? ((b2.add (p * 12)).add j) = some v) := Go.Lib.hid (by
                  obtain ⟨bb, e, hc⟩ := HI6.out.sd.fcell hpl
                  cases e
                  rw [HPS.out] at hc
                  exact hc)
                try simp only [Act.put, List.setIfInBounds_toArray, List.set_cons_zero, List.set_cons_succ]
                refine wp_region_held_drew (S := fun Y => Below W6.heap.size W6 Y) (by kernel_rfl) ?_ (fun hHeld => ?_)
                · exact below_drew (Below.refl _ _)
                refine wpAnyH_take (i := 0) (oi := ⟨some 290, _, _, _, _, _⟩) (v := ?_) rfl (by kernel_rfl) (by kernel_rfl) (by kernel_rfl) (fun _ _ _ h => h) (Or.inl ⟨by rfl, ?_⟩) (by assumption) ?_
                rotate_left
                · intro w hSw; (try dsimp only at hSw); go_simp; (try with_reducible rfl)
                try simp only [Act.put, List.setIfInBounds_toArray, List.set_cons_zero, List.set_cons_succ]
                refine wpAnyH_take (i := 1) (oi := ⟨some 291, _, _, _, _, _⟩) (v := ?_) rfl (by kernel_rfl) (by kernel_rfl) (by kernel_rfl) (fun _ _ _ h => h) (Or.inl ⟨by rfl, ?_⟩) (by assumption) ?_
                rotate_left
                · intro w hSw; (try dsimp only at hSw); go_simp; (try with_reducible rfl)
                try simp only [Act.put, List.setIfInBounds_toArray, List.set_cons_zero, List.set_cons_succ]
                refine wpAnyH_take (i := 2) (oi := ⟨some 292, _, _, _, _, _⟩) (v := ?_) rfl (by kernel_rfl) (by kernel_rfl) (by kernel_rfl) (fun _ _ _ h => h) (Or.inl ⟨by rfl, ?_⟩) (by assumption) ?_
                rotate_left
                · intro w hSw; (try dsimp only at hSw); go_simp; (try with_reducible rfl)
                try simp only [Act.put, List.setIfInBounds_toArray, List.set_cons_zero, List.set_cons_succ]
                refine wpAnyH_take (i := 3) (oi := ⟨some 293, _, _, _, _, _⟩) (v := ?_) rfl (by kernel_rfl) (by kernel_rfl) (by kernel_rfl) (fun _ _ _ h => h) (Or.inl ⟨by rfl, ?_⟩) (by assumption) ?_
                rotate_left
                · intro w hSw; (try dsimp only at hSw); go_simp; (try with_reducible rfl)
                try simp only [Act.put, List.setIfInBounds_toArray, List.set_cons_zero, List.set_cons_succ]
                refine wpAnyH_take (i := 4) (oi := ⟨some 294, _, _, _, _, _⟩) (v := ?_) rfl (by kernel_rfl) (by kernel_rfl) (by kernel_rfl) (fun _ _ _ h => h) (Or.inl ⟨by rfl, ?_⟩) (by assumption) ?_
                rotate_left
                · intro w hSw; (try dsimp only at hSw); go_simp; (try with_reducible rfl)
                try simp only [Act.put, List.setIfInBounds_toArray, List.set_cons_zero, List.set_cons_succ]
                refine wpAnyH_take (i := 5) (oi := ⟨some 295, _, _, _, _, _⟩) (v := ?_) rfl (by kernel_rfl) (by kernel_rfl) (by kernel_rfl) (fun _ _ _ h => h) (Or.inl ⟨by rfl, ?_⟩) (by assumption) ?_
                rotate_left
                · intro w hSw; (try dsimp only at hSw); go_simp; (try with_reducible rfl)
                try simp only [Act.put, List.setIfInBounds_toArray, List.set_cons_zero, List.set_cons_succ]
                refine wpAnyH_take (i := 6) (oi := ⟨some 296, _, _, _, _, _⟩) (v := ?_) rfl (by kernel_rfl) (by kernel_rfl) (by kernel_rfl) (fun _ _ _ h => h) (Or.inl ⟨by rfl, ?_⟩) (by assumption) ?_
                rotate_left
                · intro w hSw; (try dsimp only at hSw); go_simp; (try with_reducible rfl)
                try simp only [Act.put, List.setIfInBounds_toArray, List.set_cons_zero, List.set_cons_succ]
                refine wpAnyH_take (i := 7) (oi := ⟨some 297, _, _, _, _, _⟩) (v := ?_) rfl (by kernel_rfl) (by kernel_rfl) (by kernel_rfl) (fun _ _ _ h => h) (Or.inl ⟨by rfl, ?_⟩) (by assumption) ?_
                rotate_left
                · intro w hSw; (try dsimp only at hSw); go_simp; (try with_reducible rfl)
                try simp only [Act.put, List.setIfInBounds_toArray, List.set_cons_zero, List.set_cons_succ]
                refine wpAnyH_take (i := 8) (oi := ⟨some 298, _, _, _, _, _⟩) (v := ?_) rfl (by kernel_rfl) (by kernel_rfl) (by kernel_rfl) (fun _ _ _ h => h) (Or.inl ⟨by rfl, ?_⟩) (by assumption) ?_
                rotate_left
                · intro w hSw; (try dsimp only at hSw); go_simp; (try with_reducible rfl)
                try simp only [Act.put, List.setIfInBounds_toArray, List.set_cons_zero, List.set_cons_succ]
                refine wpAnyH_take (i := 9) (oi := ⟨some 299, _, _, _, _, _⟩) (v := ?_) rfl (by kernel_rfl) (by kernel_rfl) (by kernel_rfl) (fun _ _ _ h => h) (Or.inl ⟨by rfl, ?_⟩) (by assumption) ?_
                rotate_left
                · intro w hSw; (try dsimp only at hSw); go_simp; (try with_reducible rfl)
                try simp only [Act.put, List.setIfInBounds_toArray, List.set_cons_zero, List.set_cons_succ]
                refine wpAnyH_take (i := 10) (oi := ⟨some 300, _, _, _, _, _⟩) (v := ?_) rfl (by kernel_rfl) (by kernel_rfl) (by kernel_rfl) (fun _ _ _ h => h) (Or.inl ⟨by rfl, ?_⟩) (by assumption) ?_
                rotate_left
                · intro w hSw; (try dsimp only at hSw); go_simp; (try with_reducible rfl)
                try simp only [Act.put, List.setIfInBounds_toArray, List.set_cons_zero, List.set_cons_succ]
                refine wpAnyH_take (i := 11) (oi := ⟨some 301, _, _, _, _, _⟩) (v := ?_) rfl (by kernel_rfl) (by kernel_rfl) (by kernel_rfl) (fun _ _ _ h => h) (Or.inl ⟨by rfl, ?_⟩) (by assumption) ?_
                rotate_left
                · intro w hSw; (try dsimp only at hSw); go_simp; (try with_reducible rfl)
                try simp only [Act.put, List.setIfInBounds_toArray, List.set_cons_zero, List.set_cons_succ]
                refine wpAnyH_take (i := 12) (oi := ⟨some 302, _, _, _, _, _⟩) (v := ?_) rfl (by kernel_rfl) (by kernel_rfl) (by kernel_rfl) (fun _ _ _ h => h) (Or.inl ⟨by rfl, ?_⟩) (by assumption) ?_
                rotate_left
                · intro w hSw; (try dsimp only at hSw); go_simp; (try with_reducible rfl)
                try simp only [Act.put, List.setIfInBounds_toArray, List.set_cons_zero, List.set_cons_succ]
                refine wpAnyH_take (i := 13) (oi := ⟨some 303, _, _, _, _, _⟩) (v := ?_) rfl (by kernel_rfl) (by kernel_rfl) (by kernel_rfl) (fun _ _ _ h => h) (Or.inl ⟨by rfl, ?_⟩) (by assumption) ?_
                rotate_left
                · intro w hSw; (try dsimp only at hSw); go_simp; (try with_reducible rfl)
                try simp only [Act.put, List.setIfInBounds_toArray, List.set_cons_zero, List.set_cons_succ]
                refine wpAnyH_take (i := 14) (oi := ⟨some 304, _, _, _, _, _⟩) (v := ?_) rfl (by kernel_rfl) (by kernel_rfl) (by kernel_rfl) (fun _ _ _ h => h) (Or.inl ⟨by rfl, ?_⟩) (by assumption) ?_
                rotate_left
                · intro w hSw; (try dsimp only at hSw); go_simp; (try with_reducible rfl)
                try simp only [Act.put, List.setIfInBounds_toArray, List.set_cons_zero, List.set_cons_succ]
                refine wpAnyH_take (i := 15) (oi := ⟨some 305, _, _, _, _, _⟩) (v := (sdV X2 A2 c2 (some b2) d2)) rfl (by kernel_rfl) (by kernel_rfl) (by kernel_rfl) (fun _ _ _ h => h) (yieldsIf_load_at (by rfl) 31 _ rfl ⟨g, 0, none⟩ rfl (sdL X2 A2 c2 (some b2) d2) _ (fun Y h => (HI6.out.box.keep h HI6.out.box.lt).at) Try.underlying31 rfl info_sd) (by assumption) ?_
                try simp only [Act.put, List.setIfInBounds_toArray, List.set_cons_zero, List.set_cons_succ]
                refine wpAnyH_take (i := 16) (oi := ⟨some 306, _, _, _, _, _⟩) (v := ?_) rfl (by kernel_rfl) (by kernel_rfl) (by kernel_rfl) (fun _ _ _ h => h) (Or.inl ⟨by rfl, ?_⟩) (by assumption) ?_
                rotate_left
                · intro w hSw; (try dsimp only at hSw); go_simp; (try with_reducible rfl)
                try simp only [Act.put, List.setIfInBounds_toArray, List.set_cons_zero, List.set_cons_succ]
                refine wpAnyH_take (i := 17) (oi := ⟨some 307, _, _, _, _, _⟩) (v := ?_) rfl (by kernel_rfl) (by kernel_rfl) (by kernel_rfl) (fun _ _ _ h => h) (Or.inl ⟨by rfl, ?_⟩) (by assumption) ?_
                rotate_left
                · intro w hSw; have zc := (HB6.out.box.keep hSw HB6.out.box.lt).cell 13 rfl; (try dsimp only at hSw); go_simp; (try with_reducible rfl)
                try simp only [Act.put, List.setIfInBounds_toArray, List.set_cons_zero, List.set_cons_succ]
                refine wpAnyH_ready (rs := [18]) (by kernel_rfl) (by simp) (AllReadyH.cons (o := ⟨some 308, _, _, _, _, _⟩) rfl (fun Kc hKc => ?_) AllReadyH.nil)
                go_simp
                go_at_call 23; refine (rthere12 X2 A2 c2 (some b2) d2 (p : Int) _ (HI6.out.sd.at hHeld) true HT.out).mono ?_; rintro e w9 ⟨rfl, y9⟩; dsimp only
                refine hKc.out _ _ (hHeld.trans (y9.mono hHeld.size)) (fun hHeld => ?_)
                clear hKc Kc
                try simp only [Act.put, List.setIfInBounds_toArray, List.set_cons_zero, List.set_cons_succ]
                refine wpAnyH_take (i := 19) (oi := ⟨some 309, _, _, _, _, _⟩) (v := ?_) rfl (by kernel_rfl) (by kernel_rfl) (by kernel_rfl) (fun _ _ _ h => h) (Or.inl ⟨by rfl, ?_⟩) (by assumption) ?_
                rotate_left
                · intro w hSw; (try dsimp only at hSw); go_simp; (try with_reducible rfl)
                try simp only [Act.put, List.setIfInBounds_toArray, List.set_cons_zero, List.set_cons_succ]
                refine wpAnyH_take (i := 20) (oi := ⟨some 310, _, _, _, _, _⟩) (v := ?_) rfl (by kernel_rfl) (by kernel_rfl) (by kernel_rfl) (fun _ _ _ h => h) (Or.inl ⟨by rfl, ?_⟩) (by assumption) ?_
                rotate_left
                · intro w hSw; (try dsimp only at hSw); go_simp; (try with_reducible rfl)
                try simp only [Act.put, List.setIfInBounds_toArray, List.set_cons_zero, List.set_cons_succ]
                refine wpAnyH_take (i := 21) (oi := ⟨some 311, _, _, _, _, _⟩) (v := ?_) rfl (by kernel_rfl) (by kernel_rfl) (by kernel_rfl) (fun _ _ _ h => h) (Or.inl ⟨by rfl, ?_⟩) (by assumption) ?_
                rotate_left
                · intro w hSw; (try dsimp only at hSw); go_simp; (try with_reducible rfl)
                try simp only [Act.put, List.setIfInBounds_toArray, List.set_cons_zero, List.set_cons_succ]
                refine wpAnyH_take (i := 22) (oi := ⟨some 312, _, _, _, _, _⟩) (v := ?_) rfl (by kernel_rfl) (by kernel_rfl) (by kernel_rfl) (fun _ _ _ h => h) (Or.inl ⟨by rfl, ?_⟩) (by assumption) ?_
                rotate_left
                · intro w hSw; (try dsimp only at hSw); go_simp; (try with_reducible rfl)
                try simp only [Act.put, List.setIfInBounds_toArray, List.set_cons_zero, List.set_cons_succ]
                refine wpAnyH_take (i := 23) (oi := ⟨some 313, _, _, _, _, _⟩) (v := ?_) rfl (by kernel_rfl) (by kernel_rfl) (by kernel_rfl) (fun _ _ _ h => h) (Or.inl ⟨by rfl, ?_⟩) (by assumption) ?_
                rotate_left
                · intro w hSw; (try dsimp only at hSw); go_simp; (try with_reducible rfl)
                try simp only [Act.put, List.setIfInBounds_toArray, List.set_cons_zero, List.set_cons_succ]
                refine wpAnyH_take (i := 24) (oi := ⟨some 314, _, _, _, _, _⟩) (v := (flV f)) rfl (by kernel_rfl) (by kernel_rfl) (by kernel_rfl) (fun _ _ _ h => h) (yieldsIf_load_at (by rfl) 40 _ rfl ⟨g6, 0, none⟩ rfl (flL f) _ (fun Y h => (HG6.out.keep h HG6.out.lt).at) Try.underlying40 rfl info_fl) (by assumption) ?_
                try simp only [Act.put, List.setIfInBounds_toArray, List.set_cons_zero, List.set_cons_succ]
                refine wpAnyH_take (i := 25) (oi := ⟨some 315, _, _, _, _, _⟩) (v := ?_) rfl (by kernel_rfl) (by kernel_rfl) (by kernel_rfl) (fun _ _ _ h => h) (Or.inl ⟨by rfl, ?_⟩) (by assumption) ?_
                rotate_left
                · intro w hSw; (try dsimp only at hSw); go_simp; (try with_reducible rfl)
                try simp only [Act.put, List.setIfInBounds_toArray, List.set_cons_zero, List.set_cons_succ]
                refine wpAnyH_take (i := 26) (oi := ⟨some 316, _, _, _, _, _⟩) (v := ?_) rfl (by kernel_rfl) (by kernel_rfl) (by kernel_rfl) (fun _ _ _ h => h) (Or.inl ⟨by rfl, ?_⟩) (by assumption) ?_
                rotate_left
                · intro w hSw; have zc := (HI6.out.box.keep hSw HI6.out.box.lt).cell 1 rfl; (try dsimp only at hSw); go_simp; (try with_reducible rfl)
                try simp only [Act.put, List.setIfInBounds_toArray, List.set_cons_zero, List.set_cons_succ]
                refine wpAnyH_take (i := 27) (oi := ⟨some 317, _, _, _, _, _⟩) (v := ?_) rfl (by kernel_rfl) (by kernel_rfl) (by kernel_rfl) (fun _ _ _ h => h) (Or.inl ⟨by rfl, ?_⟩) (by assumption) ?_
                rotate_left
                · intro w hSw; (try dsimp only at hSw); go_simp; (try with_reducible rfl)
                try simp only [Act.put, List.setIfInBounds_toArray, List.set_cons_zero, List.set_cons_succ]
                refine wpAnyH_take (i := 28) (oi := ⟨some 318, _, _, _, _, _⟩) (v := ?_) rfl (by kernel_rfl) (by kernel_rfl) (by kernel_rfl) (fun _ _ _ h => h) (Or.inl ⟨by rfl, ?_⟩) (by assumption) ?_
                rotate_left
                · intro w hSw; have zc := (HB6.out.box.keep hSw HB6.out.box.lt).cell 13 rfl; (try dsimp only at hSw); go_simp; (try with_reducible rfl)
                try simp only [Act.put, List.setIfInBounds_toArray, List.set_cons_zero, List.set_cons_succ]
                refine wpAnyH_take (i := 29) (oi := ⟨some 319, _, _, _, _, _⟩) (v := ?_) rfl (by kernel_rfl) (by kernel_rfl) (by kernel_rfl) (fun _ _ _ h => h) (Or.inl ⟨by rfl, ?_⟩) (by assumption) ?_
                rotate_left
                · intro w hSw; (try dsimp only at hSw); go_simp; (try with_reducible rfl)
                try simp only [Act.put, List.setIfInBounds_toArray, List.set_cons_zero, List.set_cons_succ]
                refine wpAnyH_take (i := 30) (oi := ⟨some 320, _, _, _, _, _⟩) (v := (flV f)) rfl (by kernel_rfl) (by kernel_rfl) (by kernel_rfl) (fun _ _ _ h => h) (yieldsIf_load_at (by rfl) 40 _ rfl (b2.add (p * 12)) rfl (flL f) _ (fun Y h => HFC.out Y h) Try.underlying40 rfl info_fl) (by assumption) ?_
                try simp only [Act.put, List.setIfInBounds_toArray, List.set_cons_zero, List.set_cons_succ]
                refine wpAnyH_take (i := 31) (oi := ⟨some 321, _, _, _, _, _⟩) (v := ?_) rfl (by kernel_rfl) (by kernel_rfl) (by kernel_rfl) (fun _ _ _ h => h) (Or.inl ⟨by rfl, ?_⟩) (by assumption) ?_
                rotate_left
                · intro w hSw; (try dsimp only at hSw); go_simp; (try with_reducible rfl)
                try simp only [Act.put, List.setIfInBounds_toArray, List.set_cons_zero, List.set_cons_succ]
                refine wpAnyH_take (i := 32) (oi := ⟨some 322, _, _, _, _, _⟩) (v := ?_) rfl (by kernel_rfl) (by kernel_rfl) (by kernel_rfl) (fun _ _ _ h => h) (Or.inl ⟨by rfl, ?_⟩) (by assumption) ?_
                rotate_left
                · intro w hSw; (try dsimp only at hSw); go_simp; (try with_reducible rfl)
                try simp only [Act.put, List.setIfInBounds_toArray, List.set_cons_zero, List.set_cons_succ]
                refine wpAnyH_take (i := 33) (oi := ⟨some 323, _, _, _, _, _⟩) (v := ?_) rfl (by kernel_rfl) (by kernel_rfl) (by kernel_rfl) (fun _ _ _ h => h) (Or.inl ⟨by rfl, ?_⟩) (by assumption) ?_
                rotate_left
                · intro w hSw; (try dsimp only at hSw); go_simp; (try with_reducible rfl)
                try simp only [Act.put, List.setIfInBounds_toArray, List.set_cons_zero, List.set_cons_succ]
                refine wpAnyH_done (by kernel_rfl) ?_ _
                have yq := hHeld
                clear hHeld
                have HI9 := Go.Lib.hid (HI6.out.call yq)
                go_upto_region 48 with fail
                try simp only [Act.put, List.setIfInBounds_toArray, List.set_cons_zero, List.set_cons_succ]
                refine wp_region_held_drew (S := fun Y => Below w9.heap.size w9 Y) (by kernel_rfl) ?_ (fun hHeld => ?_)
                · exact below_drew (Below.refl _ _)
                refine wpAnyH_take (i := 0) (oi := ⟨some 324, _, _, _, _, _⟩) (v := ?_) rfl (by kernel_rfl) (by kernel_rfl) (by kernel_rfl) (fun _ _ _ h => h) (Or.inl ⟨by rfl, ?_⟩) (by assumption) ?_
                rotate_left
                · intro w hSw; (try dsimp only at hSw); go_simp; (try with_reducible rfl)
                try simp only [Act.put, List.setIfInBounds_toArray, List.set_cons_zero, List.set_cons_succ]
                refine wpAnyH_take (i := 2) (oi := ⟨some 326, _, _, _, _, _⟩) (v := (sdV X2 A2 c2 (some b2) d2)) rfl (by kernel_rfl) (by kernel_rfl) (by kernel_rfl) (fun _ _ _ h => h) (yieldsIf_load_at (by rfl) 31 _ rfl ⟨g, 0, none⟩ rfl (sdL X2 A2 c2 (some b2) d2) _ (fun Y h => (HI9.out.box.keep h HI9.out.box.lt).at) Try.underlying31 rfl info_sd) (by assumption) ?_
                try simp only [Act.put, List.setIfInBounds_toArray, List.set_cons_zero, List.set_cons_succ]
                refine wpAnyH_ready (rs := [1]) (by kernel_rfl) (by simp) (AllReadyH.cons (o := ⟨some 325, _, _, _, _, _⟩) rfl (fun Kc hKc => ?_) AllReadyH.nil)
                go_simp
                go_at_call 15; refine (K.all_ (HI9.out.call hHeld).st.rep l HLD.out).mono ?_; rintro e w10 ⟨A10, c10, rfl, hf10, y10⟩; have HF10 := Go.Lib.hid hf10; clear hf10; dsimp only
                refine hKc.out _ _ (hHeld.trans (y10.mono hHeld.size)) (fun hHeld => ?_)
                clear hKc Kc
                try simp only [Act.put, List.setIfInBounds_toArray, List.set_cons_zero, List.set_cons_succ]
                refine wpAnyH_ready (rs := [3]) (by kernel_rfl) (by simp) (AllReadyH.cons (o := ⟨some 327, _, _, _, _, _⟩) rfl (fun Kc hKc => ?_) AllReadyH.nil)
                go_simp
                go_at_call 24; refine (rall12 X2 A2 c2 (some b2) d2 _ (HI9.out.call hHeld).sd (by omega) l HLD.out).mono ?_; rintro e w11 ⟨A11, c11, rfl, hf11, y11, _⟩; have HF11 := Go.Lib.hid hf11; have HF10 := Go.Lib.hid (HF10.out.at y11); clear hf11; dsimp only
                refine hKc.out _ _ (hHeld.trans (y11.mono hHeld.size)) (fun hHeld => ?_)
                clear hKc Kc
                try simp only [Act.put, List.setIfInBounds_toArray, List.set_cons_zero, List.set_cons_succ]
                refine wpAnyH_ready (rs := [4]) (by kernel_rfl) (by simp) (AllReadyH.cons (o := ⟨some 328, _, _, _, _, _⟩) rfl (fun Kc hKc => ?_) AllReadyH.nil)
                go_simp
                go_at_call 21; refine (rsame12 l A10 c10 l A11 c11 _ HF10.out HF11.out true HSM.out).mono ?_; rintro e w12 ⟨rfl, y12⟩; dsimp only
                refine hKc.out _ _ (hHeld.trans (y12.mono hHeld.size)) (fun hHeld => ?_)
                clear hKc Kc
                try simp only [Act.put, List.setIfInBounds_toArray, List.set_cons_zero, List.set_cons_succ]
                refine wpAnyH_take (i := 5) (oi := ⟨some 329, _, _, _, _, _⟩) (v := ?_) rfl (by kernel_rfl) (by kernel_rfl) (by kernel_rfl) (fun _ _ _ h => h) (Or.inl ⟨by rfl, ?_⟩) (by assumption) ?_
                rotate_left
                · intro w hSw; (try dsimp only at hSw); go_simp; (try with_reducible rfl)
                try simp only [Act.put, List.setIfInBounds_toArray, List.set_cons_zero, List.set_cons_succ]
                refine wpAnyH_take (i := 6) (oi := ⟨some 330, _, _, _, _, _⟩) (v := ?_) rfl (by kernel_rfl) (by kernel_rfl) (by kernel_rfl) (fun _ _ _ h => h) (Or.inl ⟨by rfl, ?_⟩) (by assumption) ?_
                rotate_left
                · intro w hSw; (try dsimp only at hSw); go_simp; (try with_reducible rfl)
                try simp only [Act.put, List.setIfInBounds_toArray, List.set_cons_zero, List.set_cons_succ]
                refine wpAnyH_take (i := 7) (oi := ⟨some 331, _, _, _, _, _⟩) (v := ?_) rfl (by kernel_rfl) (by kernel_rfl) (by kernel_rfl) (fun _ _ _ h => h) (Or.inl ⟨by rfl, ?_⟩) (by assumption) ?_
                rotate_left
                · intro w hSw; (try dsimp only at hSw); go_simp; (try with_reducible rfl)
                try simp only [Act.put, List.setIfInBounds_toArray, List.set_cons_zero, List.set_cons_succ]
                refine wpAnyH_take (i := 9) (oi := ⟨some 333, _, _, _, _, _⟩) (v := (sdV X2 A2 c2 (some b2) d2)) rfl (by kernel_rfl) (by kernel_rfl) (by kernel_rfl) (fun _ _ _ h => h) (yieldsIf_load_at (by rfl) 31 _ rfl ⟨g, 0, none⟩ rfl (sdL X2 A2 c2 (some b2) d2) _ (fun Y h => (HI9.out.box.keep h HI9.out.box.lt).at) Try.underlying31 rfl info_sd) (by assumption) ?_
                try simp only [Act.put, List.setIfInBounds_toArray, List.set_cons_zero, List.set_cons_succ]
                refine wpAnyH_ready (rs := [8]) (by kernel_rfl) (by simp) (AllReadyH.cons (o := ⟨some 332, _, _, _, _, _⟩) rfl (fun Kc hKc => ?_) AllReadyH.nil)
                go_simp
                go_at_call 16; refine (K.len_ (HI9.out.call hHeld).st.rep _ HLN.out).mono ?_; rintro e w13 ⟨rfl, y13⟩; dsimp only
                refine hKc.out _ _ (hHeld.trans (y13.mono hHeld.size)) (fun hHeld => ?_)
                clear hKc Kc
                try simp only [Act.put, List.setIfInBounds_toArray, List.set_cons_zero, List.set_cons_succ]
                refine wpAnyH_ready (rs := [10]) (by kernel_rfl) (by simp) (AllReadyH.cons (o := ⟨some 334, _, _, _, _, _⟩) rfl (fun Kc hKc => ?_) AllReadyH.nil)
                go_simp
                go_at_call 24; refine (rall12 X2 A2 c2 (some b2) d2 _ (HI9.out.call hHeld).sd (by omega) l HLD.out).mono ?_; rintro e w14 ⟨A14, c14, rfl, hf14, y14, _⟩; dsimp only
                refine hKc.out _ _ (hHeld.trans (y14.mono hHeld.size)) (fun hHeld => ?_)
                clear hKc Kc
                try simp only [Act.put, List.setIfInBounds_toArray, List.set_cons_zero, List.set_cons_succ]
                refine wpAnyH_take (i := 11) (oi := ⟨some 335, _, _, _, _, _⟩) (v := ?_) rfl (by kernel_rfl) (by kernel_rfl) (by kernel_rfl) (fun _ _ _ h => h) (Or.inl ⟨by rfl, ?_⟩) (by assumption) ?_
                rotate_left
                · intro w hSw; (try dsimp only at hSw); go_simp; (try with_reducible rfl)
                try simp only [Act.put, List.setIfInBounds_toArray, List.set_cons_zero, List.set_cons_succ]
                refine wpAnyH_take (i := 12) (oi := ⟨some 336, _, _, _, _, _⟩) (v := ?_) rfl (by kernel_rfl) (by kernel_rfl) (by kernel_rfl) (fun _ _ _ h => h) (Or.inl ⟨by rfl, ?_⟩) (by assumption) ?_
                rotate_left
                · intro w hSw; (try dsimp only at hSw); go_simp; (try with_reducible rfl)
                try simp only [Act.put, List.setIfInBounds_toArray, List.set_cons_zero, List.set_cons_succ]
                refine wpAnyH_take (i := 13) (oi := ⟨some 337, _, _, _, _, _⟩) (v := ?_) rfl (by kernel_rfl) (by kernel_rfl) (by kernel_rfl) (fun _ _ _ h => h) (Or.inl ⟨by rfl, ?_⟩) (by assumption) ?_
                rotate_left
                · intro w hSw; (try dsimp only at hSw); go_simp; (try with_reducible rfl)
                try simp only [Act.put, List.setIfInBounds_toArray, List.set_cons_zero, List.set_cons_succ]
                refine wpAnyH_done (by kernel_rfl) ?_ _
                have yq := hHeld
                clear hHeld
                go_wp2
                go_round
                case rel => exact ⟨i + 1, X2, F2, A2, c2, (some b2), d2, by go_num, by omega, by omega, hX2, Go.Lib.hid (HI9.out.call yq)⟩
                case measure => simp [intOf]; omega
        · have t1 : (i : Int) < (L.length : Int) := by omega
          have t2 : ¬ (i : Int) < 120 := by omega
          have HBW := HI.out.st.below
          clear HI
          go_wp2_with fail
          go_ret
          exact ⟨rfl, HBW⟩
      · have t1 : ¬ (i : Int) < (L.length : Int) := by omega
        have HBW := HI.out.st.below
        clear HI
        go_wp2_with fail
        go_ret
        exact ⟨rfl, HBW⟩
end Go.Proofs.Ytofpalmghdapkaa
