/- WheelRight, from the contracts. -/
import Derived.Test.YtebmomanpkmloaaWheelAct
namespace Go.Proofs.Ytebmomanpkmloaa
open Go.ChangeShapes Go.WideShapes Go.ChangeAt Go.RowKit
set_option linter.unusedVariables false
set_option linter.unusedSimpArgs false

set_option maxRecDepth 100000 in
set_option maxHeartbeats 16000000 in
theorem wheelRight (K : WheelC) (KN : WheelN) (L : List Ac) (A : Option Addr) (c : Nat) (w : World) (h : AcsAt w L A c) :
    Calls Try.prog 3 #[.slice A L.length c] w fun e w' => e = .returned (.bool true) ∧ Below w.heap.size w w' := by
  have HL := Go.Lib.hid h
  have hlc := h.len
  have hcc := h.cap
  have kA := Go.Lib.hid (cawake11 K)
  clear h
  go_enter Try.func3, Try.ntmps3
  go_upto_region 5 with (first
    | (go_at_call 7; refine (kA.out _).mono ?_; rintro e w1 ⟨rfl, y1⟩; dsimp only)
    | (go_at_call 8; refine (K.new _).mono ?_; rintro e w2 ⟨ad, F, rfl, r2, n2, y2⟩; have H2 := Go.Lib.hid (WhI.made y1 r2 n2 y2); clear r2 n2; dsimp only))
  have HR0 : Hid (RtI K w w2.heap.size ad wh0 wh0 F none 0 (w2.alloc (oWh wh0 none 0))) := Go.Lib.hid ⟨H2.out.call ((Below.refl _ _).alloc (Nat.le_refl _) _), Bxo.made w2 28 (whL wh0 none 0), ⟨Nat.le_refl _, by omega, fun _ => rfl, .inl rfl⟩, H2.out.below.size, fun f => by have := K.lt H2.out.rep _ f; omega, fun b e => by cases e⟩
  generalize w2.alloc (oWh wh0 none 0) = W at *
  generalize w2.heap.size = g at *
  clear kA H2 y1 y2
  go_wp2_with fail
  go_loopw [5] (fun iv wr => ∃ (i : Nat) (X : Wh) (F' : Nat → Prop) (A' : Option Addr) (c' : Nat), iv = .int .i64 i ∧ i ≤ L.length ∧ i ≤ 300 ∧ Hid (RtI K w g ad X X F' A' c' wr)) (fun iv _ => 300 - (intOf iv).toNat)
  case atStart => exact ⟨0, wh0, F, none, 0, rfl, by omega, by omega, HR0⟩
  case round =>
    rename World => wo
    obtain ⟨i, X, F1, A1, c1, rfl, hi1, hi2, HI⟩ := hrel
    clear HR0
    have i0 : (0 : Int) ≤ (i : Int) := by omega
    by_cases hlt : i < L.length
    · by_cases h300 : i < 300
      · have t1 : (i : Int) < (L.length : Int) := by omega
        have t2 : (i : Int) < 300 := by omega
        obtain ⟨bd, rfl, hcell⟩ := HL.out.cell hlt
        obtain ⟨a, ha⟩ : ∃ a, L[i] = a := ⟨_, rfl⟩
        rw [ha] at hcell
        have HNR : Hid (I64 a.num) := Go.Lib.hid (by rw [← ha]; exact HL.out.rng _ (List.getElem_mem hlt))
        have HW := Go.Lib.hid (hcell wo HI.out.wh.below)
        have HI2 := Go.Lib.hid (HI.out.call (below_alloc (Below.refl _ _) (Nat.le_refl _) (oAc a)))
        have HB2 : Hid (AcB F1 a wo.heap.size (wo.alloc (oAc a))) := Go.Lib.hid ⟨Bxo.made wo 30 (acL a), fun f => by have := K.lt HI.out.wh.rep _ f; omega⟩
        have HG := Go.Lib.hid HI.out.box.lt
        clear hcell ha HI
        go_upto_region 9 with (refine wpList_load_at rfl 30 _ rfl (bd.add (i * 3)) rfl (acL a) _ HW.out Try.underlying30 rfl info_ac ?_)
        have hgg := HG.out
        generalize wo.alloc (oAc a) = W2 at *
        generalize wo.heap.size = ga at *
        obtain ⟨kind, num, at_⟩ := a
        have HNR : Hid (I64 num) := HNR
        have b0 := HB2.out.box.cell 0 rfl
        go_upto_block 2 with fail
        go_cut [] (fun wx => ∃ (X' : Wh) (F' : Nat → Prop) (A' : Option Addr) (c' : Nat), Hid (RtI K w g ad X' X' F' A' c' wx ∧ AcB F' ⟨kind, num, at_⟩ ga wx))
        case first =>
          have hbig : X.list.length ≤ 65536 := by have := (K.right HI2.out.wh.rep).size; omega
          have b1 := HB2.out.box.cell 1 rfl
          have b2 := HB2.out.box.cell 2 rfl
          by_cases k0 : kind = 0
          · have tk : (kind == 0) = true := by simpa using k0
            obtain ⟨⟨X3, e3⟩, hq⟩ : ∃ q, setH X num at_ = q := ⟨_, rfl⟩
            have HQ := Go.Lib.hid hq
            have te : (e3 != e3) = false := by simp
            clear hq k0
            go_upto_region 17 with (first
              | (refine wpList_load_box rfl 28 _ rfl g rfl (whL X A1 c1) _ HI2.out.box Try.underlying28 rfl info_wh ?_)
              | (go_at_call 9; refine (rset11 X A1 c1 num at_ W2 HI2.out.al hbig _ HQ.out).mono ?_; rintro e w3 ⟨A3, c3, rfl, al3, y3, f3⟩; have HA3 := Go.Lib.hid al3; have HF3 := Go.Lib.hid f3; clear al3 f3; dsimp only))
            have y4 : Below W2.heap.size W2 (w3.alloc (oWh X3 A3 c3)) := below_alloc y3 y3.size _
            have HB7 := Go.Lib.hid (Bxo.made w3 28 (whL X3 A3 c3))
            have HB4 := Go.Lib.hid (HB2.out.call y4)
            have HA4 := Go.Lib.hid (HA3.out.at ((Below.refl _ _).alloc (Nat.le_refl _) (oWh X3 A3 c3)))
            have HF4 : Hid (A3 = A1 ∨ ∀ b, A3 = some b → W2.heap.size ≤ b.block ∧ b.block < (w3.alloc (oWh X3 A3 c3)).heap.size) := Go.Lib.hid (HF3.out.imp id (fun f b e => ⟨(f b e).1, by have := (f b e).2; simp; omega⟩))
            generalize w3.alloc (oWh X3 A3 c3) = w4 at *
            generalize w3.heap.size = g7 at *
            have HI4 := Go.Lib.hid (HI2.out.call y4)
            go_upto_region 18 with (first
              | (refine wpList_load_box rfl 28 _ rfl g7 rfl (whL X3 A3 c3) _ HB7.out Try.underlying28 rfl info_wh ?_)
              | (refine wpList_store_any rfl 28 _ _ rfl g 0 28 _ (whL X3 A3 c3) _ rfl rfl rfl HI4.out.box info_wh (by show 0 + 2 ≤ 2; omega) (by simp [Value.oneCell']) ?_; intro w5 hb5 ho5; have HI5 := Go.Lib.hid (HI2.out.doc y4 HA4.out HF4.out ho5 hb5); have HB5 := Go.Lib.hid (HB4.out.only ho5 (by omega)); have b1 := HB5.out.box.cell 1 rfl; have b2 := HB5.out.box.cell 2 rfl; clear hb5))
            go_wp2_with (first
              | (go_at_call 10; refine (K.set HI5.out.wh.rep num at_ _ HQ.out).mono ?_; rintro e w6 ⟨F6, rfl, r6, n6, m6⟩; have HI6 := Go.Lib.hid (HI5.out.turn r6 n6 m6); have HB6 := Go.Lib.hid (HB5.out.turn n6 m6); clear r6 n6 m6; dsimp only))
            go_meet
            exact ⟨X3, F6, A3, c3, Go.Lib.hid ⟨HI6.out, HB6.out⟩⟩
          · have tk : (kind == 0) = false := by simpa using k0
            by_cases k1 : kind = 1
            · have tk1 : (kind == 1) = true := by simpa using k1
              obtain ⟨⟨X3, e3⟩, hq⟩ : ∃ q, dropH X num = q := ⟨_, rfl⟩
              have HQ := Go.Lib.hid hq
              have te : (e3 != e3) = false := by simp
              clear hq k0 k1
              go_upto_region 22 with (first
                | (refine wpList_load_box rfl 28 _ rfl g rfl (whL X A1 c1) _ HI2.out.box Try.underlying28 rfl info_wh ?_)
                | (go_at_call 11; refine (rdrop11 X A1 c1 num W2 HI2.out.al hbig _ HQ.out).mono ?_; rintro e w3 ⟨A3, c3, rfl, al3, y3, f3⟩; have HA3 := Go.Lib.hid al3; have HF3 := Go.Lib.hid f3; clear al3 f3; dsimp only))
              have y4 : Below W2.heap.size W2 (w3.alloc (oWh X3 A3 c3)) := below_alloc y3 y3.size _
              have HB7 := Go.Lib.hid (Bxo.made w3 28 (whL X3 A3 c3))
              have HB4 := Go.Lib.hid (HB2.out.call y4)
              have HA4 := Go.Lib.hid (HA3.out.at ((Below.refl _ _).alloc (Nat.le_refl _) (oWh X3 A3 c3)))
              have HF4 : Hid (A3 = A1 ∨ ∀ b, A3 = some b → W2.heap.size ≤ b.block ∧ b.block < (w3.alloc (oWh X3 A3 c3)).heap.size) := Go.Lib.hid (HF3.out.imp id (fun f b e => ⟨(f b e).1, by have := (f b e).2; simp; omega⟩))
              generalize w3.alloc (oWh X3 A3 c3) = w4 at *
              generalize w3.heap.size = g7 at *
              have HI4 := Go.Lib.hid (HI2.out.call y4)
              go_upto_region 23 with (first
                | (refine wpList_load_box rfl 28 _ rfl g7 rfl (whL X3 A3 c3) _ HB7.out Try.underlying28 rfl info_wh ?_)
                | (refine wpList_store_any rfl 28 _ _ rfl g 0 28 _ (whL X3 A3 c3) _ rfl rfl rfl HI4.out.box info_wh (by show 0 + 2 ≤ 2; omega) (by simp [Value.oneCell']) ?_; intro w5 hb5 ho5; have HI5 := Go.Lib.hid (HI2.out.doc y4 HA4.out HF4.out ho5 hb5); have HB5 := Go.Lib.hid (HB4.out.only ho5 (by omega)); have b1 := HB5.out.box.cell 1 rfl; have b2 := HB5.out.box.cell 2 rfl; clear hb5))
              go_wp2_with (first
                | (go_at_call 12; refine (K.drop HI5.out.wh.rep num HNR.out _ HQ.out).mono ?_; rintro e w6 ⟨F6, rfl, r6, n6, m6⟩; have HI6 := Go.Lib.hid (HI5.out.turn r6 n6 m6); have HB6 := Go.Lib.hid (HB5.out.turn n6 m6); clear r6 n6 m6; dsimp only))
              go_meet
              exact ⟨X3, F6, A3, c3, Go.Lib.hid ⟨HI6.out, HB6.out⟩⟩
            · have tk1 : (kind == 1) = false := by simpa using k1
              obtain ⟨⟨X3, D3, e3⟩, hq⟩ : ∃ q, tickH X at_ = q := ⟨_, rfl⟩
              have HQ := Go.Lib.hid hq
              have te : (e3 != e3) = false := by simp
              clear hq k0 k1
              go_upto_region 11 with (first
                | (refine wpList_load_box rfl 28 _ rfl g rfl (whL X A1 c1) _ HI2.out.box Try.underlying28 rfl info_wh ?_)
                | (go_at_call 13; refine (rtick11 X A1 c1 at_ W2 HI2.out.al hbig (fun b e => (HI2.out.apart b e).2.2) _ HQ.out).mono ?_; rintro e w3 ⟨A3, c3, B3, d3, rfl, al3, in3, y3, f3, fb3⟩; have HA3 := Go.Lib.hid al3; have HF3 := Go.Lib.hid f3; have HN3 := Go.Lib.hid in3; have HG3 := Go.Lib.hid fb3; clear al3 f3 in3 fb3; dsimp only))
              have y4 : Below W2.heap.size W2 (w3.alloc (oWh X3 A3 c3)) := below_alloc y3 y3.size _
              have HB7 := Go.Lib.hid (Bxo.made w3 28 (whL X3 A3 c3))
              have HB4 := Go.Lib.hid (HB2.out.call y4)
              have HA4 := Go.Lib.hid (HA3.out.at ((Below.refl _ _).alloc (Nat.le_refl _) (oWh X3 A3 c3)))
              have HF4 : Hid (A3 = A1 ∨ ∀ b, A3 = some b → W2.heap.size ≤ b.block ∧ b.block < (w3.alloc (oWh X3 A3 c3)).heap.size) := Go.Lib.hid (HF3.out.imp id (fun f b e => ⟨(f b e).1, by have := (f b e).2; simp; omega⟩))
              have HN4 := Go.Lib.hid (HN3.out.keep ((Below.refl _ _).alloc (Nat.le_refl _) (oWh X3 A3 c3)))
              have HG4 : Hid (∀ b, B3 = some b → b.block ≠ g ∧ ¬ F1 b.block ∧ b.block < (w3.alloc (oWh X3 A3 c3)).heap.size) := Go.Lib.hid (fun b e => by
                have h1 := HG3.out b e
                have h2 := HI2.out.box.lt
                refine ⟨by omega, fun f => ?_, by simp; omega⟩
                have := K.lt HI2.out.wh.rep _ f
                omega)
              generalize w3.alloc (oWh X3 A3 c3) = w4 at *
              generalize w3.heap.size = g7 at *
              have HI4 := Go.Lib.hid (HI2.out.call y4)
              go_upto_region 12 with (first
                | (refine wpList_load_box rfl 28 _ rfl g7 rfl (whL X3 A3 c3) _ HB7.out Try.underlying28 rfl info_wh ?_)
                | (refine wpList_store_any rfl 28 _ _ rfl g 0 28 _ (whL X3 A3 c3) _ rfl rfl rfl HI4.out.box info_wh (by show 0 + 2 ≤ 2; omega) (by simp [Value.oneCell']) ?_; intro w5 hb5 ho5; have HI5 := Go.Lib.hid (HI2.out.doc y4 HA4.out HF4.out ho5 hb5); have HB5 := Go.Lib.hid (HB4.out.only ho5 (by omega)); have b1 := HB5.out.box.cell 1 rfl; have b2 := HB5.out.box.cell 2 rfl; clear hb5))
              have HN5 := Go.Lib.hid (HN4.out.keepB (fun b e => ho5.block _ (HG4.out b e).1))
              have HG5 : Hid (∀ b, B3 = some b → b.block < w5.heap.size ∧ ¬ F1 b.block) := Go.Lib.hid (fun b e => ⟨by have h1 := (HG4.out b e).2.2; have h2 := ho5.size; omega, (HG4.out b e).2.1⟩)
              go_wp2_with (first
                | (go_at_call 14; refine (K.tick HI5.out.wh.rep at_ _ HQ.out).mono ?_; rintro e w6 ⟨F6, A6, c6, rfl, du6, r6, n6, m6⟩; have HI6 := Go.Lib.hid (HI5.out.turn r6 n6 m6); have HB6 := Go.Lib.hid (HB5.out.turn n6 m6); have HD6 := Go.Lib.hid du6.ins; have HN6 := Go.Lib.hid (HN5.out.keepB (fun b e => m6.block _ (HG5.out b e).1 (HG5.out b e).2)); clear r6 n6 m6 du6; dsimp only)
                | (go_at_call 15; refine (rsame11 D3 A6 c6 B3 d3 _ _ rfl rfl w6 HD6.out HN6.out).mono ?_; rintro e w7 ⟨rfl, y7⟩; have HI7 := Go.Lib.hid (HI6.out.call y7); have HB7 := Go.Lib.hid (HB6.out.call y7); dsimp only))
              go_meet
              exact ⟨X3, F6, A3, c3, Go.Lib.hid ⟨HI7.out, HB7.out⟩⟩
        case rest =>
          obtain ⟨X2, F2, A2, c2, hx⟩ := hcut
          obtain ⟨hx1, hx2⟩ := hx.out
          have HI3 := Go.Lib.hid hx1
          have HB3 := Go.Lib.hid hx2
          clear hx hx1 hx2 HI2 HB2
          have b1 := HB3.out.box.cell 1 rfl
          obtain ⟨⟨v, ok⟩, hq⟩ : ∃ q, whenH X2 num = q := ⟨_, rfl⟩
          have HQ := Go.Lib.hid hq
          clear hq
          go_upto_region 27 with (first
            | (go_at_call 16; refine (K.when_ HI3.out.wh.rep num HNR.out _ HQ.out).mono ?_; rintro e w4 ⟨rfl, y4⟩; have HI4 := Go.Lib.hid (HI3.out.call y4); have HB4 := Go.Lib.hid (HB3.out.call y4); have b1 := HB4.out.box.cell 1 rfl; dsimp only)
            | (refine wpList_load_box rfl 28 _ rfl g rfl (whL X2 A2 c2) _ HI4.out.box Try.underlying28 rfl info_wh ?_)
            | (go_at_call 17; refine (rwhen11 X2 A2 c2 num w4 HI4.out.al _ HQ.out).mono ?_; rintro e w5 ⟨rfl, y5⟩; have HI5 := Go.Lib.hid (HI4.out.call y5); dsimp only))
          have tv : (v != v) = false := by simp
          have tb : (ok != ok) = false := by simp
          have tl : ((X2.list.length : Int) != (X2.list.length : Int)) = false := by simp
          have tn : (X2.now != X2.now) = false := by simp
          try simp only [Act.put, List.setIfInBounds_toArray, List.set_cons_zero, List.set_cons_succ]
          refine wp_region_held_drew (S := fun Y => Below w5.heap.size w5 Y) (by kernel_rfl) ?_ (fun hHeld => ?_)
          · exact below_drew (Below.refl _ _)
          refine wpAnyH_take (i := 0) (oi := ⟨some 120, _, _, _, _, _⟩) (v := ?_) rfl (by kernel_rfl) (by kernel_rfl) (by kernel_rfl) (fun _ _ _ h => h) (Or.inl ⟨by rfl, ?_⟩) (by assumption) ?_
          rotate_left
          · intro w hSw; (try dsimp only at hSw); go_simp; (try with_reducible rfl)
          try simp only [Act.put, List.setIfInBounds_toArray, List.set_cons_zero, List.set_cons_succ]
          refine wpAnyH_take (i := 1) (oi := ⟨some 121, _, _, _, _, _⟩) (v := ?_) rfl (by kernel_rfl) (by kernel_rfl) (by kernel_rfl) (fun _ _ _ h => h) (Or.inl ⟨by rfl, ?_⟩) (by assumption) ?_
          rotate_left
          · intro w hSw; (try dsimp only at hSw); go_simp; (try with_reducible rfl)
          try simp only [Act.put, List.setIfInBounds_toArray, List.set_cons_zero, List.set_cons_succ]
          refine wpAnyH_take (i := 2) (oi := ⟨some 122, _, _, _, _, _⟩) (v := ?_) rfl (by kernel_rfl) (by kernel_rfl) (by kernel_rfl) (fun _ _ _ h => h) (Or.inl ⟨by rfl, ?_⟩) (by assumption) ?_
          rotate_left
          · intro w hSw; (try dsimp only at hSw); go_simp; (try with_reducible rfl)
          try simp only [Act.put, List.setIfInBounds_toArray, List.set_cons_zero, List.set_cons_succ]
          refine wpAnyH_take (i := 3) (oi := ⟨some 123, _, _, _, _, _⟩) (v := ?_) rfl (by kernel_rfl) (by kernel_rfl) (by kernel_rfl) (fun _ _ _ h => h) (Or.inl ⟨by rfl, ?_⟩) (by assumption) ?_
          rotate_left
          · intro w hSw; (try dsimp only at hSw); go_simp; (try with_reducible rfl)
          try simp only [Act.put, List.setIfInBounds_toArray, List.set_cons_zero, List.set_cons_succ]
          refine wpAnyH_take (i := 4) (oi := ⟨some 124, _, _, _, _, _⟩) (v := ?_) rfl (by kernel_rfl) (by kernel_rfl) (by kernel_rfl) (fun _ _ _ h => h) (Or.inl ⟨by rfl, ?_⟩) (by assumption) ?_
          rotate_left
          · intro w hSw; (try dsimp only at hSw); go_simp; (try with_reducible rfl)
          try simp only [Act.put, List.setIfInBounds_toArray, List.set_cons_zero, List.set_cons_succ]
          refine wpAnyH_take (i := 5) (oi := ⟨some 125, _, _, _, _, _⟩) (v := ?_) rfl (by kernel_rfl) (by kernel_rfl) (by kernel_rfl) (fun _ _ _ h => h) (Or.inl ⟨by rfl, ?_⟩) (by assumption) ?_
          rotate_left
          · intro w hSw; (try dsimp only at hSw); go_simp; (try with_reducible rfl)
          try simp only [Act.put, List.setIfInBounds_toArray, List.set_cons_zero, List.set_cons_succ]
          refine wpAnyH_take (i := 6) (oi := ⟨some 126, _, _, _, _, _⟩) (v := ?_) rfl (by kernel_rfl) (by kernel_rfl) (by kernel_rfl) (fun _ _ _ h => h) (Or.inl ⟨by rfl, ?_⟩) (by assumption) ?_
          rotate_left
          · intro w hSw; (try dsimp only at hSw); go_simp; (try with_reducible rfl)
          try simp only [Act.put, List.setIfInBounds_toArray, List.set_cons_zero, List.set_cons_succ]
          refine wpAnyH_take (i := 7) (oi := ⟨some 127, _, _, _, _, _⟩) (v := ?_) rfl (by kernel_rfl) (by kernel_rfl) (by kernel_rfl) (fun _ _ _ h => h) (Or.inl ⟨by rfl, ?_⟩) (by assumption) ?_
          rotate_left
          · intro w hSw; (try dsimp only at hSw); go_simp; (try with_reducible rfl)
          try simp only [Act.put, List.setIfInBounds_toArray, List.set_cons_zero, List.set_cons_succ]
          refine wpAnyH_take (i := 8) (oi := ⟨some 128, _, _, _, _, _⟩) (v := ?_) rfl (by kernel_rfl) (by kernel_rfl) (by kernel_rfl) (fun _ _ _ h => h) (Or.inl ⟨by rfl, ?_⟩) (by assumption) ?_
          rotate_left
          · intro w hSw; (try dsimp only at hSw); go_simp; (try with_reducible rfl)
          try simp only [Act.put, List.setIfInBounds_toArray, List.set_cons_zero, List.set_cons_succ]
          refine wpAnyH_take (i := 9) (oi := ⟨some 129, _, _, _, _, _⟩) (v := ?_) rfl (by kernel_rfl) (by kernel_rfl) (by kernel_rfl) (fun _ _ _ h => h) (Or.inl ⟨by rfl, ?_⟩) (by assumption) ?_
          rotate_left
          · intro w hSw; (try dsimp only at hSw); go_simp; (try with_reducible rfl)
          try simp only [Act.put, List.setIfInBounds_toArray, List.set_cons_zero, List.set_cons_succ]
          refine wpAnyH_take (i := 11) (oi := ⟨some 131, _, _, _, _, _⟩) (v := ?_) rfl (by kernel_rfl) (by kernel_rfl) (by kernel_rfl) (fun _ _ _ h => h) (Or.inl ⟨by rfl, ?_⟩) (by assumption) ?_
          rotate_left
          · intro w hSw; (try dsimp only at hSw); go_simp; (try with_reducible rfl)
          try simp only [Act.put, List.setIfInBounds_toArray, List.set_cons_zero, List.set_cons_succ]
          refine wpAnyH_take (i := 12) (oi := ⟨some 132, _, _, _, _, _⟩) (v := ?_) rfl (by kernel_rfl) (by kernel_rfl) (by kernel_rfl) (fun _ _ _ h => h) (Or.inl ⟨by rfl, ?_⟩) (by assumption) ?_
          rotate_left
          · intro w hSw; have zc := (HI5.out.box.keep hSw HI5.out.box.lt).cell 0 rfl; (try dsimp only at hSw); go_simp; (try with_reducible rfl)
          try simp only [Act.put, List.setIfInBounds_toArray, List.set_cons_zero, List.set_cons_succ]
          refine wpAnyH_take (i := 13) (oi := ⟨some 133, _, _, _, _, _⟩) (v := ?_) rfl (by kernel_rfl) (by kernel_rfl) (by kernel_rfl) (fun _ _ _ h => h) (Or.inl ⟨by rfl, ?_⟩) (by assumption) ?_
          rotate_left
          · intro w hSw; (try dsimp only at hSw); go_simp; (try with_reducible rfl)
          try simp only [Act.put, List.setIfInBounds_toArray, List.set_cons_zero, List.set_cons_succ]
          refine wpAnyH_ready (rs := [10]) (by kernel_rfl) (by simp) (AllReadyH.cons (o := ⟨some 130, _, _, _, _, _⟩) rfl (fun Kc hKc => ?_) AllReadyH.nil)
          go_simp
          go_at_call 18; refine (K.waits (HI5.out.call hHeld).wh.rep _ rfl).mono ?_; rintro e w6 ⟨rfl, y6⟩; dsimp only
          refine hKc.out _ _ (hHeld.trans (y6.mono hHeld.size)) (fun hHeld => ?_)
          clear hKc Kc
          try simp only [Act.put, List.setIfInBounds_toArray, List.set_cons_zero, List.set_cons_succ]
          refine wpAnyH_take (i := 14) (oi := ⟨some 134, _, _, _, _, _⟩) (v := ?_) rfl (by kernel_rfl) (by kernel_rfl) (by kernel_rfl) (fun _ _ _ h => h) (Or.inl ⟨by rfl, ?_⟩) (by assumption) ?_
          rotate_left
          · intro w hSw; (try dsimp only at hSw); go_simp; (try with_reducible rfl)
          try simp only [Act.put, List.setIfInBounds_toArray, List.set_cons_zero, List.set_cons_succ]
          refine wpAnyH_take (i := 15) (oi := ⟨some 135, _, _, _, _, _⟩) (v := ?_) rfl (by kernel_rfl) (by kernel_rfl) (by kernel_rfl) (fun _ _ _ h => h) (Or.inl ⟨by rfl, ?_⟩) (by assumption) ?_
          rotate_left
          · intro w hSw; (try dsimp only at hSw); go_simp; (try with_reducible rfl)
          try simp only [Act.put, List.setIfInBounds_toArray, List.set_cons_zero, List.set_cons_succ]
          refine wpAnyH_take (i := 16) (oi := ⟨some 136, _, _, _, _, _⟩) (v := ?_) rfl (by kernel_rfl) (by kernel_rfl) (by kernel_rfl) (fun _ _ _ h => h) (Or.inl ⟨by rfl, ?_⟩) (by assumption) ?_
          rotate_left
          · intro w hSw; (try dsimp only at hSw); go_simp; (try with_reducible rfl)
          try simp only [Act.put, List.setIfInBounds_toArray, List.set_cons_zero, List.set_cons_succ]
          refine wpAnyH_take (i := 17) (oi := ⟨some 137, _, _, _, _, _⟩) (v := ?_) rfl (by kernel_rfl) (by kernel_rfl) (by kernel_rfl) (fun _ _ _ h => h) (Or.inl ⟨by rfl, ?_⟩) (by assumption) ?_
          rotate_left
          · intro w hSw; (try dsimp only at hSw); go_simp; (try with_reducible rfl)
          try simp only [Act.put, List.setIfInBounds_toArray, List.set_cons_zero, List.set_cons_succ]
          refine wpAnyH_take (i := 19) (oi := ⟨some 139, _, _, _, _, _⟩) (v := ?_) rfl (by kernel_rfl) (by kernel_rfl) (by kernel_rfl) (fun _ _ _ h => h) (Or.inl ⟨by rfl, ?_⟩) (by assumption) ?_
          rotate_left
          · intro w hSw; (try dsimp only at hSw); go_simp; (try with_reducible rfl)
          try simp only [Act.put, List.setIfInBounds_toArray, List.set_cons_zero, List.set_cons_succ]
          refine wpAnyH_take (i := 20) (oi := ⟨some 140, _, _, _, _, _⟩) (v := ?_) rfl (by kernel_rfl) (by kernel_rfl) (by kernel_rfl) (fun _ _ _ h => h) (Or.inl ⟨by rfl, ?_⟩) (by assumption) ?_
          rotate_left
          · intro w hSw; have zc := (HI5.out.box.keep hSw HI5.out.box.lt).cell 1 rfl; (try dsimp only at hSw); go_simp; (try with_reducible rfl)
          try simp only [Act.put, List.setIfInBounds_toArray, List.set_cons_zero, List.set_cons_succ]
          refine wpAnyH_ready (rs := [18]) (by kernel_rfl) (by simp) (AllReadyH.cons (o := ⟨some 138, _, _, _, _, _⟩) rfl (fun Kc hKc => ?_) AllReadyH.nil)
          go_simp
          go_at_call 19; refine (K.now_ (HI5.out.call hHeld).wh.rep _ rfl).mono ?_; rintro e w7 ⟨rfl, y7⟩; dsimp only
          refine hKc.out _ _ (hHeld.trans (y7.mono hHeld.size)) (fun hHeld => ?_)
          clear hKc Kc
          try simp only [Act.put, List.setIfInBounds_toArray, List.set_cons_zero, List.set_cons_succ]
          refine wpAnyH_take (i := 21) (oi := ⟨some 141, _, _, _, _, _⟩) (v := ?_) rfl (by kernel_rfl) (by kernel_rfl) (by kernel_rfl) (fun _ _ _ h => h) (Or.inl ⟨by rfl, ?_⟩) (by assumption) ?_
          rotate_left
          · intro w hSw; (try dsimp only at hSw); go_simp; (try with_reducible rfl)
          try simp only [Act.put, List.setIfInBounds_toArray, List.set_cons_zero, List.set_cons_succ]
          refine wpAnyH_take (i := 22) (oi := ⟨some 142, _, _, _, _, _⟩) (v := ?_) rfl (by kernel_rfl) (by kernel_rfl) (by kernel_rfl) (fun _ _ _ h => h) (Or.inl ⟨by rfl, ?_⟩) (by assumption) ?_
          rotate_left
          · intro w hSw; (try dsimp only at hSw); go_simp; (try with_reducible rfl)
          try simp only [Act.put, List.setIfInBounds_toArray, List.set_cons_zero, List.set_cons_succ]
          refine wpAnyH_done (by kernel_rfl) ?_ _
          have yq := hHeld
          clear hHeld
          go_wp2
          go_round
          case rel => exact ⟨i + 1, X2, F2, A2, c2, by go_num, by omega, by omega, Go.Lib.hid (HI5.out.call yq)⟩
          case measure => simp [intOf]; omega
      · have t1 : (i : Int) < (L.length : Int) := by omega
        have t2 : ¬ (i : Int) < 300 := by omega
        have HBW := HI.out.wh.below
        clear HI
        go_wp2_with (first
          | (go_at_call 14; refine (KN.tick _ _).mono ?_; rintro e v1 ⟨A9, c9, rfl, z1⟩; dsimp only)
          | (go_at_call 16; refine (KN.when_ _ _).mono ?_; rintro e v2 ⟨rfl, z2⟩; dsimp only)
          | (go_at_call 10; refine (KN.set _ _ _).mono ?_; rintro e v3 ⟨rfl, z3⟩; dsimp only)
          | (go_at_call 12; refine (KN.drop _ _).mono ?_; rintro e v4 ⟨rfl, z4⟩; dsimp only)
          | (go_at_call 18; refine (KN.waits _).mono ?_; rintro e v5 ⟨rfl, z5⟩; dsimp only)
          | (go_at_call 19; refine (KN.now_ _).mono ?_; rintro e v6 ⟨rfl, z6⟩; dsimp only))
        go_ret
        have u1 := HBW.trans (z1.mono HBW.size)
        have u2 := u1.trans (z2.mono u1.size)
        have u3 := u2.trans (z3.mono u2.size)
        have u4 := u3.trans (z4.mono u3.size)
        have u5 := u4.trans (z5.mono u4.size)
        exact ⟨rfl, u5.trans (z6.mono u5.size)⟩
    · have t1 : ¬ (i : Int) < (L.length : Int) := by omega
      have HBW := HI.out.wh.below
      clear HI
      go_wp2_with (first
        | (go_at_call 14; refine (KN.tick _ _).mono ?_; rintro e v1 ⟨A9, c9, rfl, z1⟩; dsimp only)
        | (go_at_call 16; refine (KN.when_ _ _).mono ?_; rintro e v2 ⟨rfl, z2⟩; dsimp only)
        | (go_at_call 10; refine (KN.set _ _ _).mono ?_; rintro e v3 ⟨rfl, z3⟩; dsimp only)
        | (go_at_call 12; refine (KN.drop _ _).mono ?_; rintro e v4 ⟨rfl, z4⟩; dsimp only)
        | (go_at_call 18; refine (KN.waits _).mono ?_; rintro e v5 ⟨rfl, z5⟩; dsimp only)
        | (go_at_call 19; refine (KN.now_ _).mono ?_; rintro e v6 ⟨rfl, z6⟩; dsimp only))
      go_ret
      have u1 := HBW.trans (z1.mono HBW.size)
      have u2 := u1.trans (z2.mono u1.size)
      have u3 := u2.trans (z3.mono u2.size)
      have u4 := u3.trans (z4.mono u3.size)
      have u5 := u4.trans (z5.mono u4.size)
      exact ⟨rfl, u5.trans (z6.mono u5.size)⟩
end Go.Proofs.Ytebmomanpkmloaa
