/- Lemmas of layer 7, several texts in one. -/
import Derived.Test.YthejakbjekjhjaaQ19
import Derived.Test.YthejakbjekjhjaaQ21
import Derived.Test.YthejakbjekjhjaaQ24
import Derived.Test.YthejakbjekjhjaaQ10
import Derived.Deep.DeepCutAuto
/- What layer 7's statements begin with: awake. -/
namespace Go.Proofs.Ythejakbjekjhjaa
open Go.ChangeShapes Go.WideShapes Go.ChangeAt Go.RowKit
set_option linter.unusedVariables false
set_option linter.unusedSimpArgs false

abbrev tk2 : Tk := ⟨p0, y9, true, 0⟩
theorem right_p0 : RightP p0 := (rightP_iff p0).1 (by decide)
theorem right_p1 : RightP p1 := (rightP_iff p1).1 (by decide)
theorem pk_one1 (w : World) (g : Nat) (hb : Bxo w g 5 [.int .u8 9]) {V : Nat → Prop} (hg : V g) (lt : ∀ b, V b → b < w.heap.size) : PkAt w V x1 none 0 (some ⟨g, 0, none⟩) 1 :=
  ⟨by decide, by decide, by decide, by decide, ⟨Nat.zero_le _, Nat.zero_le _, fun _ => rfl, .inl rfl⟩, ⟨by decide, by decide, (fun h => by cases h), .inr ⟨_, rfl, hg, fun j b hj => by
    match j, hj with
    | 0, hj => cases hj; exact hb.cell 0 rfl
    | n + 1, hj => cases hj⟩⟩, lt⟩
theorem pk_eight (w : World) (g : Nat) (hb : Bxo w g 5 [.int .u8 0, .int .u8 0, .int .u8 0, .int .u8 0, .int .u8 0, .int .u8 0, .int .u8 0, .int .u8 0]) {V : Nat → Prop} (hg : V g) (lt : ∀ b, V b → b < w.heap.size) : PkAt w V x2 none 0 (some ⟨g, 0, none⟩) 8 :=
  ⟨by decide, by decide, by decide, by decide, ⟨Nat.zero_le _, Nat.zero_le _, fun _ => rfl, .inl rfl⟩, ⟨by decide, by decide, (fun h => by cases h), .inr ⟨_, rfl, hg, fun j b hj => by
    have hc := hb.at j (.int .u8 0)
    match j, hj with
    | 0, hj => cases hj; exact hc rfl
    | 1, hj => cases hj; exact hc rfl
    | 2, hj => cases hj; exact hc rfl
    | 3, hj => cases hj; exact hc rfl
    | 4, hj => cases hj; exact hc rfl
    | 5, hj => cases hj; exact hc rfl
    | 6, hj => cases hj; exact hc rfl
    | 7, hj => cases hj; exact hc rfl
    | n + 8, hj => cases hj⟩⟩, lt⟩
set_option maxRecDepth 100000 in
set_option maxHeartbeats 16000000 in
theorem cawake (w : World) :
    Calls Try.prog 6 #[] w fun e w' => e = .returned (.bool true) ∧ Below w.heap.size w w' := by
  go_enter Try.func6, Try.ntmps6
  go_upto_region 2 with (first
    | (go_at_call 7; refine (cnew 100 9 w p0 0 (if_pos (by omega))).mono ?_; rintro e w1 ⟨A0, c0, rfl, hp0, y1⟩; have HP0 := Go.Lib.hid hp0; clear hp0; dsimp only))
  have y2 : Below w1.heap.size w1 (w1.alloc (oPo p0 A0 c0)) := (Below.refl _ _).alloc (Nat.le_refl _) _
  have y3 : Below w1.heap.size w1 ((w1.alloc (oPo p0 A0 c0)).alloc (.cells #[.int .u8 9] 5)) := below_alloc y2 (by simp) _
  have h1 : Bxo (w1.alloc (oPo p0 A0 c0)) w1.heap.size 27 (poL p0 A0 c0) := Bxo.made w1 27 (poL p0 A0 c0)
  have h2 : Bxo ((w1.alloc (oPo p0 A0 c0)).alloc (.cells #[.int .u8 9] 5)) w1.heap.size 27 (poL p0 A0 c0) := h1.alloc _
  have h3 : Bxo ((w1.alloc (oPo p0 A0 c0)).alloc (.cells #[.int .u8 9] 5)) (w1.heap.size + 1) 5 [.int .u8 9] := by
    have := Bxo.made (w1.alloc (oPo p0 A0 c0)) 5 [.int .u8 9]
    simpa using this
  have z2 : ((w1.alloc (oPo p0 A0 c0)).alloc (.cells #[.int .u8 9] 5)).heap.size = w1.heap.size + 2 := by simp
  have z1 := y1.size
  have HULT : Hid (∀ b, growV (fun _ => False) w w1 b ∨ b = w1.heap.size + 1 → b < w1.heap.size + 2 ∧ b ≠ w1.heap.size) := Go.Lib.hid (fun b h => by rcases h with (h | h) | h; exact h.elim; omega; omega)
  have HP2 : Hid (PoAt ((w1.alloc (oPo p0 A0 c0)).alloc (.cells #[.int .u8 9] 5)) (fun b => growV (fun _ => False) w w1 b ∨ b = w1.heap.size + 1) p0 A0 c0) := Go.Lib.hid ((HP0.out.at y3).more (fun b h => .inl h) (fun b h => by rw [z2]; exact (HULT.out b h).1))
  have HX2 : Hid (PkAt ((w1.alloc (oPo p0 A0 c0)).alloc (.cells #[.int .u8 9] 5)) (fun b => growV (fun _ => False) w w1 b ∨ b = w1.heap.size + 1) x1 none 0 (some ⟨w1.heap.size + 1, 0, none⟩) 1) := Go.Lib.hid (pk_one1 _ _ h3 (.inr rfl) HP2.out.lt)
  have H1 := Go.Lib.hid h1
  have H2 := Go.Lib.hid h2
  clear h1 h2 h3
  obtain ⟨U1, hU1⟩ : ∃ U : Nat → Prop, U = (fun b => growV (fun _ => False) w w1 b ∨ b = w1.heap.size + 1) := ⟨_, rfl⟩
  rw [← hU1] at HP2 HX2
  have HULT1 : Hid (∀ b, U1 b → b < w1.heap.size + 2 ∧ b ≠ w1.heap.size) := Go.Lib.hid (by rw [hU1]; exact HULT.out)
  clear HULT hU1 HP0
  obtain ⟨W2, hW2⟩ : ∃ W, W = (w1.alloc (oPo p0 A0 c0)).alloc (.cells #[.int .u8 9] 5) := ⟨_, rfl⟩
  rw [← hW2] at HP2 HX2 H2 y3 z2
  go_upto_region 3 with (first
    | (refine wpList_load_box rfl 27 _ rfl w1.heap.size rfl (poL p0 A0 c0) _ H1.out Try.underlying27 rfl info_po ?_)
    | (rw [← hW2]; go_at_call 8; refine (ctake p0 A0 c0 x1 none 0 (some ⟨w1.heap.size + 1, 0, none⟩) 1 W2 U1 ⟨p1, Pk.empty, false, 0⟩ take_x1 HP2.out HX2.out right_p0 (by decide) (by decide)).mono ?_; rintro e w4 ⟨A4, c4, Ao4, co4, Ab4, cb4, rfl, hq, hk, y4⟩; have HQ := Go.Lib.hid hq; have HK := Go.Lib.hid hk; clear hq hk; have z4 := y4.size; have H4 := Go.Lib.hid (Bxo.alloc (H2.out.keep y4 H2.out.lt) (oPk pk0 none 0 none 0)); have H5 := Go.Lib.hid (Bxo.made w4 33 (pkL pk0 none 0 none 0)); dsimp only)
    | (refine wpList_store_whole rfl 27 _ _ rfl w1.heap.size _ (poL p1 A4 c4) rfl rfl H4.out info_po rfl (by simp [Value.oneCell']) ?_; intro w5 hb5 ho5; have HB5 := Go.Lib.hid hb5; clear hb5)
    | (refine wpList_store_whole rfl 33 _ _ rfl w4.heap.size _ (pkL Pk.empty Ao4 co4 Ab4 cb4) rfl rfl (H5.out.only ho5 (by omega)) info_pk rfl (by simp [Value.oneCell']) ?_; intro W5 hb6 ho6; have HB6 := Go.Lib.hid hb6; clear hb6))
  clear HX2 H1
  have zW5 : W5.heap.size = w4.heap.size + 1 := by have a := ho5.size; have b := ho6.size; simp at a; omega
  have HB : Hid (Bxo W5 w1.heap.size 27 (poL p1 A4 c4)) := Go.Lib.hid (HB5.out.only ho6 (by omega))
  have HUlt : Hid (∀ b, growV U1 W2 w4 b → b < W5.heap.size) := Go.Lib.hid (fun b h => h.elim (fun k => by have := HULT1.out b k; omega) (fun k => by omega))
  have HUN : Hid (∀ b, growV U1 W2 w4 b → b ≠ w1.heap.size ∧ b ≠ w4.heap.size) := Go.Lib.hid (fun b h => h.elim (fun k => by have := HULT1.out b k; omega) (fun k => by omega))
  have HP : Hid (PoAt W5 (growV U1 W2 w4) p1 A4 c4) := Go.Lib.hid (((HQ.out.at ((Below.refl _ _).alloc (Nat.le_refl _) _)).only ho5 (fun h => (HUN.out _ h).1 rfl)).only ho6 (fun h => (HUN.out _ h).2 rfl))
  have x5 : Below w.heap.size w W5 := (((((y1.trans (y3.mono z1))).trans (y4.mono (by omega))).trans ((Below.refl w4.heap.size w4).alloc (Nat.le_refl _) _ |>.mono (by omega))).trans (ho5.below (by omega))).trans (ho6.below (by omega))
  have hbp : w1.heap.size < W5.heap.size := by omega
  have zw5 := Nat.le_of_eq zW5
  have zv5 := Nat.le_of_eq zW5.symm
  clear zW5
  clear HQ HK H2 H4 H5 HP2 HB5 HB6 HULT1 ho5 ho6 y4 y3 y2 hW2
  go_upto_region 3 with fail
  go_cut [6, 7, 8, 9] (fun a b c d wx => ∃ g9 g10 A' c' Ao' co' Ab' cb' U', a = .pointer (some ⟨g9, 0, none⟩) ∧ b = .pointer (some ⟨g10, 0, none⟩) ∧ c = .bool true ∧ d = .int .i64 0 ∧ TkD W5 (growV U1 W2 w4) tk2 g9 g10 A' c' Ao' co' Ab' cb' U' wx)
  case first =>
    try simp only [Act.put, List.setIfInBounds_toArray, List.set_cons_zero, List.set_cons_succ]
    refine wp_region_held_drew (S := fun Y => Bxo Y w1.heap.size 27 (poL p1 A4 c4)) (by kernel_rfl) ?_ (fun hHeld => ?_)
    · exact HB.out
    have zd : W5.drew.heap.size ≤ W5.heap.size := Nat.le_refl _; have zd2 : W5.heap.size ≤ W5.drew.heap.size := Nat.le_refl _
    have HP := Go.Lib.hid (HP.out.at (below_drew (Below.refl _ _)))
    have BL : Hid (Below W5.heap.size W5 W5.drew) := Go.Lib.hid (below_drew (Below.refl _ _))
    refine wpAnyH_take (i := 0) (oi := ⟨some 24, _, _, _, _, _⟩) (v := .agg (poL p1 A4 c4).toArray) rfl (by kernel_rfl) (by kernel_rfl) (by kernel_rfl) (fun _ _ _ h => h) (yieldsIf_load_at (by rfl) 27 _ rfl ⟨w1.heap.size, 0, none⟩ rfl (poL p1 A4 c4) _ (fun Y h => h.at) Try.underlying27 rfl info_po) (by assumption) ?_
    try simp only [Act.put, List.setIfInBounds_toArray, List.set_cons_zero, List.set_cons_succ]
    refine wpAnyH_ready (rs := [1, 9, 10]) (by kernel_rfl) (by simp) (AllReadyH.cons (o := ⟨some 25, _, _, _, _, _⟩) rfl (fun Kc hKc => ?_) (AllReadyH.cons (o := ⟨some 6, _, _, _, _, _⟩) rfl (fun Kc hKc => ?_) (AllReadyH.cons (o := ⟨some 7, _, _, _, _, _⟩) rfl (fun Kc hKc => ?_) AllReadyH.nil)))
    ·
      rw [if_pos (by rfl)]
      refine step_make8 _ 5 _ _ rfl rfl rfl Try.underlying23 info_byte ?_; intro gB wB eB hbB yB zB
      have HP := Go.Lib.hid (HP.out.at yB)
      have BL := Go.Lib.hid (BL.out.trans (yB.mono (by omega)))
      have FB := Go.Lib.hid hbB; clear hbB
      have HP : Hid (PoAt wB (fun b => growV U1 W2 w4 b ∨ b = gB) p1 A4 c4) := Go.Lib.hid (HP.out.more (fun b h => .inl h) (fun b h => h.elim (fun k => by have := HP.out.lt b k; omega) (fun k => by have := FB.out.lt; omega)))
      have HX : Hid (PkAt wB (fun b => growV U1 W2 w4 b ∨ b = gB) x2 none 0 (some ⟨gB, 0, none⟩) 8) := Go.Lib.hid (pk_eight _ gB FB.out (.inr rfl) HP.out.lt)
      refine hKc.out _ _ (hHeld.keep yB hHeld.lt) (fun hHeld => ?_)
      clear hKc Kc
      try simp only [Act.put, List.setIfInBounds_toArray, List.set_cons_zero, List.set_cons_succ]
      refine wpAnyH_take (i := 2) (oi := ⟨some 26, _, _, _, _, _⟩) (v := ?_) rfl (by kernel_rfl) (by kernel_rfl) (by kernel_rfl) (fun _ _ _ h => h) (Or.inl ⟨by rfl, ?_⟩) (by assumption) ?_
      rotate_left
      · intro w hSw; (try dsimp only at hSw); go_simp; (try with_reducible rfl)
      try simp only [Act.put, List.setIfInBounds_toArray, List.set_cons_zero, List.set_cons_succ]
      refine wpAnyH_ready (rs := [3, 9, 10]) (by kernel_rfl) (by simp) (AllReadyH.cons (o := ⟨some 27, _, _, _, _, _⟩) rfl (fun Kc hKc => ?_) (AllReadyH.cons (o := ⟨some 6, _, _, _, _, _⟩) rfl (fun Kc hKc => ?_) (AllReadyH.cons (o := ⟨some 7, _, _, _, _, _⟩) rfl (fun Kc hKc => ?_) AllReadyH.nil)))
      ·
        go_simp
        go_at_call 8; refine (ctake p1 A4 c4 x2 none 0 (some ⟨gB, 0, none⟩) 8 _ _ tk2 take_x2 HP.out HX.out right_p1 (by decide) (by decide)).mono ?_; rintro e7 w7 ⟨A7, c7, Ao7, co7, Ab7, cb7, rfl, hq, hk, y7⟩; have HQ := Go.Lib.hid hq; have HK := Go.Lib.hid hk; clear hq hk; have z7 := y7.size; dsimp only
        have BL := Go.Lib.hid (BL.out.trans (y7.mono (by omega)))
        refine hKc.out _ _ (hHeld.keep y7 hHeld.lt) (fun hHeld => ?_)
        clear hKc Kc
        try simp only [Act.put, List.setIfInBounds_toArray, List.set_cons_zero, List.set_cons_succ]
        refine wpAnyH_take (i := 4) (oi := ⟨some 23, _, _, _, _, _⟩) (v := ?_) rfl (by kernel_rfl) (by kernel_rfl) (by kernel_rfl) (fun _ _ _ h => h) (Or.inl ⟨by rfl, ?_⟩) (by assumption) ?_
        rotate_left
        · intro w hSw; (try dsimp only at hSw); go_simp; (try with_reducible rfl)
        try simp only [Act.put, List.setIfInBounds_toArray, List.set_cons_zero, List.set_cons_succ]
        refine wpAnyH_take (i := 5) (oi := ⟨some 28, _, _, _, _, _⟩) (v := ?_) rfl (by kernel_rfl) (by kernel_rfl) (by kernel_rfl) (fun _ _ _ h => h) (Or.inl ⟨by rfl, ?_⟩) (by assumption) ?_
        rotate_left
        · intro w hSw; (try dsimp only at hSw); go_simp; (try with_reducible rfl)
        try simp only [Act.put, List.setIfInBounds_toArray, List.set_cons_zero, List.set_cons_succ]
        refine wpAnyH_take (i := 6) (oi := ⟨some 29, _, _, _, _, _⟩) (v := ?_) rfl (by kernel_rfl) (by kernel_rfl) (by kernel_rfl) (fun _ _ _ h => h) (Or.inl ⟨by rfl, ?_⟩) (by assumption) ?_
        rotate_left
        · intro w hSw; (try dsimp only at hSw); go_simp; (try with_reducible rfl)
        try simp only [Act.put, List.setIfInBounds_toArray, List.set_cons_zero, List.set_cons_succ]
        refine wpAnyH_take (i := 7) (oi := ⟨some 30, _, _, _, _, _⟩) (v := ?_) rfl (by kernel_rfl) (by kernel_rfl) (by kernel_rfl) (fun _ _ _ h => h) (Or.inl ⟨by rfl, ?_⟩) (by assumption) ?_
        rotate_left
        · intro w hSw; (try dsimp only at hSw); go_simp; (try with_reducible rfl)
        try simp only [Act.put, List.setIfInBounds_toArray, List.set_cons_zero, List.set_cons_succ]
        refine wpAnyH_take (i := 8) (oi := ⟨some 31, _, _, _, _, _⟩) (v := ?_) rfl (by kernel_rfl) (by kernel_rfl) (by kernel_rfl) (fun _ _ _ h => h) (Or.inl ⟨by rfl, ?_⟩) (by assumption) ?_
        rotate_left
        · intro w hSw; (try dsimp only at hSw); go_simp; (try with_reducible rfl)
        try simp only [Act.put, List.setIfInBounds_toArray, List.set_cons_zero, List.set_cons_succ]
        refine wpAnyH_ready (rs := [9, 10]) (by kernel_rfl) (by simp) (AllReadyH.cons (o := ⟨some 6, _, _, _, _, _⟩) rfl (fun Kc hKc => ?_) (AllReadyH.cons (o := ⟨some 7, _, _, _, _, _⟩) rfl (fun Kc hKc => ?_) AllReadyH.nil))
        ·
          rw [if_pos (by rfl)]
          refine step_alloc 27 rfl (poL po0 none 0) info_zpo ?_; intro g9 w9 e9 hb9 y9 z9
          have HQ := Go.Lib.hid (HQ.out.at y9)
          have HK := Go.Lib.hid (HK.out.at y9)
          have BL := Go.Lib.hid (BL.out.trans (y9.mono (by omega)))
          have F9 := Go.Lib.hid hb9; clear hb9
          refine hKc.out _ _ (hHeld.keep y9 hHeld.lt) (fun hHeld => ?_)
          clear hKc Kc
          try simp only [Act.put, List.setIfInBounds_toArray, List.set_cons_zero, List.set_cons_succ]
          refine wpAnyH_ready (rs := [10]) (by kernel_rfl) (by simp) (AllReadyH.cons (o := ⟨some 7, _, _, _, _, _⟩) rfl (fun Kc hKc => ?_) AllReadyH.nil)
          rw [if_pos (by rfl)]
          refine step_alloc 33 rfl (pkL pk0 none 0 none 0) info_zpk ?_; intro g10 w10 e10 hb10 y10 z10
          have HQ := Go.Lib.hid (HQ.out.at y10)
          have HK := Go.Lib.hid (HK.out.at y10)
          have F9 := Go.Lib.hid (F9.out.keep y10 F9.out.lt)
          have BL := Go.Lib.hid (BL.out.trans (y10.mono (by omega)))
          have F10 := Go.Lib.hid hb10; clear hb10
          refine hKc.out _ _ (hHeld.keep y10 hHeld.lt) (fun hHeld => ?_)
          clear hKc Kc
          try simp only [Act.put, List.setIfInBounds_toArray, List.set_cons_zero, List.set_cons_succ]
          refine wpAnyH_ready (rs := [11]) (by kernel_rfl) (by simp) (AllReadyH.cons (o := ⟨none, _, _, _, _, _⟩) rfl (fun Kc hKc => ?_) AllReadyH.nil)
          have HN9 : Hid (¬ growV (fun b => growV U1 W2 w4 b ∨ b = gB) wB w7 g9) := Go.Lib.hid (fun h => h.elim (fun k => k.elim (fun k => by have := HUlt.out _ k; omega) (fun k => by omega)) (fun k => by omega))
          have HN10 : Hid (¬ growV (fun b => growV U1 W2 w4 b ∨ b = gB) wB w7 g10) := Go.Lib.hid (fun h => h.elim (fun k => k.elim (fun k => by have := HUlt.out _ k; omega) (fun k => by omega)) (fun k => by omega))
          rw [if_pos (by rfl)]
          refine step_store_whole 27 _ _ rfl g9 _ (poL tk2.pool A7 c7) rfl rfl F9.out info_po rfl (by simp [Value.oneCell']) ?_; intro v9 hb9 ho9; have F9 := Go.Lib.hid hb9; clear hb9; have zv9 := Nat.le_of_eq ho9.size; have zu9 := Nat.le_of_eq ho9.size.symm
          have F10 := Go.Lib.hid (F10.out.only ho9 (by omega))
          have HQ := Go.Lib.hid (HQ.out.only ho9 HN9.out); have HK := Go.Lib.hid (HK.out.only ho9 HN9.out)
          have BL := Go.Lib.hid (BL.out.trans (ho9.below (by omega)))
          refine hKc.out _ _ (hHeld.only ho9 (by omega)) (fun hHeld => ?_)
          clear hKc Kc
          try simp only [Act.put, List.setIfInBounds_toArray, List.set_cons_zero, List.set_cons_succ]
          refine wpAnyH_ready (rs := [12]) (by kernel_rfl) (by simp) (AllReadyH.cons (o := ⟨none, _, _, _, _, _⟩) rfl (fun Kc hKc => ?_) AllReadyH.nil)
          rw [if_pos (by rfl)]
          refine step_store_whole 33 _ _ rfl g10 _ (pkL tk2.out Ao7 co7 Ab7 cb7) rfl rfl F10.out info_pk rfl (by simp [Value.oneCell']) ?_; intro v10 hb10 ho10; have F10 := Go.Lib.hid hb10; clear hb10; have zv10 := Nat.le_of_eq ho10.size; have zu10 := Nat.le_of_eq ho10.size.symm
          have F9 := Go.Lib.hid (F9.out.only ho10 (by omega))
          have HQ := Go.Lib.hid (HQ.out.only ho10 HN10.out); have HK := Go.Lib.hid (HK.out.only ho10 HN10.out)
          have BL := Go.Lib.hid (BL.out.trans (ho10.below (by omega)))
          refine hKc.out _ _ (hHeld.only ho10 (by omega)) (fun hHeld => ?_)
          clear hKc Kc
          try simp only [Act.put, List.setIfInBounds_toArray, List.set_cons_zero, List.set_cons_succ]
          refine wpAnyH_take (i := 13) (oi := ⟨some 8, _, _, _, _, _⟩) (v := ?_) rfl (by kernel_rfl) (by kernel_rfl) (by kernel_rfl) (fun _ _ _ h => h) (Or.inl ⟨by rfl, ?_⟩) (by assumption) ?_
          rotate_left
          · intro w hSw; (try dsimp only at hSw); go_simp; (try with_reducible rfl)
          try simp only [Act.put, List.setIfInBounds_toArray, List.set_cons_zero, List.set_cons_succ]
          refine wpAnyH_take (i := 14) (oi := ⟨some 9, _, _, _, _, _⟩) (v := ?_) rfl (by kernel_rfl) (by kernel_rfl) (by kernel_rfl) (fun _ _ _ h => h) (Or.inl ⟨by rfl, ?_⟩) (by assumption) ?_
          rotate_left
          · intro w hSw; (try dsimp only at hSw); go_simp; (try with_reducible rfl)
          try simp only [Act.put, List.setIfInBounds_toArray, List.set_cons_zero, List.set_cons_succ]
          refine wpAnyH_done (by kernel_rfl) ?_ _
          go_wp2_with fail
          go_meet
          exact ⟨g9, g10, A7, c7, Ao7, co7, Ab7, cb7, _, rfl, rfl, rfl, rfl, ⟨BL.out, F9.out, F10.out, HQ.out, HK.out, by omega, by omega, by omega, HN9.out, HN10.out, fun b hb => hb.elim (fun k => k.elim .inl (fun k => .inr (by omega))) (fun k => .inr (by omega))⟩⟩
        ·
          rw [if_pos (by rfl)]
          refine step_alloc 33 rfl (pkL pk0 none 0 none 0) info_zpk ?_; intro g10 w10 e10 hb10 y10 z10
          have HQ := Go.Lib.hid (HQ.out.at y10)
          have HK := Go.Lib.hid (HK.out.at y10)
          have BL := Go.Lib.hid (BL.out.trans (y10.mono (by omega)))
          have F10 := Go.Lib.hid hb10; clear hb10
          refine hKc.out _ _ (hHeld.keep y10 hHeld.lt) (fun hHeld => ?_)
          clear hKc Kc
          try simp only [Act.put, List.setIfInBounds_toArray, List.set_cons_zero, List.set_cons_succ]
          refine wpAnyH_ready (rs := [9]) (by kernel_rfl) (by simp) (AllReadyH.cons (o := ⟨some 6, _, _, _, _, _⟩) rfl (fun Kc hKc => ?_) AllReadyH.nil)
          rw [if_pos (by rfl)]
          refine step_alloc 27 rfl (poL po0 none 0) info_zpo ?_; intro g9 w9 e9 hb9 y9 z9
          have HQ := Go.Lib.hid (HQ.out.at y9)
          have HK := Go.Lib.hid (HK.out.at y9)
          have F10 := Go.Lib.hid (F10.out.keep y9 F10.out.lt)
          have BL := Go.Lib.hid (BL.out.trans (y9.mono (by omega)))
          have F9 := Go.Lib.hid hb9; clear hb9
          refine hKc.out _ _ (hHeld.keep y9 hHeld.lt) (fun hHeld => ?_)
          clear hKc Kc
          try simp only [Act.put, List.setIfInBounds_toArray, List.set_cons_zero, List.set_cons_succ]
          refine wpAnyH_ready (rs := [11]) (by kernel_rfl) (by simp) (AllReadyH.cons (o := ⟨none, _, _, _, _, _⟩) rfl (fun Kc hKc => ?_) AllReadyH.nil)
          have HN9 : Hid (¬ growV (fun b => growV U1 W2 w4 b ∨ b = gB) wB w7 g9) := Go.Lib.hid (fun h => h.elim (fun k => k.elim (fun k => by have := HUlt.out _ k; omega) (fun k => by omega)) (fun k => by omega))
          have HN10 : Hid (¬ growV (fun b => growV U1 W2 w4 b ∨ b = gB) wB w7 g10) := Go.Lib.hid (fun h => h.elim (fun k => k.elim (fun k => by have := HUlt.out _ k; omega) (fun k => by omega)) (fun k => by omega))
          rw [if_pos (by rfl)]
          refine step_store_whole 27 _ _ rfl g9 _ (poL tk2.pool A7 c7) rfl rfl F9.out info_po rfl (by simp [Value.oneCell']) ?_; intro v9 hb9 ho9; have F9 := Go.Lib.hid hb9; clear hb9; have zv9 := Nat.le_of_eq ho9.size; have zu9 := Nat.le_of_eq ho9.size.symm
          have F10 := Go.Lib.hid (F10.out.only ho9 (by omega))
          have HQ := Go.Lib.hid (HQ.out.only ho9 HN9.out); have HK := Go.Lib.hid (HK.out.only ho9 HN9.out)
          have BL := Go.Lib.hid (BL.out.trans (ho9.below (by omega)))
          refine hKc.out _ _ (hHeld.only ho9 (by omega)) (fun hHeld => ?_)
          clear hKc Kc
          try simp only [Act.put, List.setIfInBounds_toArray, List.set_cons_zero, List.set_cons_succ]
          refine wpAnyH_ready (rs := [12]) (by kernel_rfl) (by simp) (AllReadyH.cons (o := ⟨none, _, _, _, _, _⟩) rfl (fun Kc hKc => ?_) AllReadyH.nil)
          rw [if_pos (by rfl)]
          refine step_store_whole 33 _ _ rfl g10 _ (pkL tk2.out Ao7 co7 Ab7 cb7) rfl rfl F10.out info_pk rfl (by simp [Value.oneCell']) ?_; intro v10 hb10 ho10; have F10 := Go.Lib.hid hb10; clear hb10; have zv10 := Nat.le_of_eq ho10.size; have zu10 := Nat.le_of_eq ho10.size.symm
          have F9 := Go.Lib.hid (F9.out.only ho10 (by omega))
          have HQ := Go.Lib.hid (HQ.out.only ho10 HN10.out); have HK := Go.Lib.hid (HK.out.only ho10 HN10.out)
          have BL := Go.Lib.hid (BL.out.trans (ho10.below (by omega)))
          refine hKc.out _ _ (hHeld.only ho10 (by omega)) (fun hHeld => ?_)
          clear hKc Kc
          try simp only [Act.put, List.setIfInBounds_toArray, List.set_cons_zero, List.set_cons_succ]
          refine wpAnyH_take (i := 13) (oi := ⟨some 8, _, _, _, _, _⟩) (v := ?_) rfl (by kernel_rfl) (by kernel_rfl) (by kernel_rfl) (fun _ _ _ h => h) (Or.inl ⟨by rfl, ?_⟩) (by assumption) ?_
          rotate_left
          · intro w hSw; (try dsimp only at hSw); go_simp; (try with_reducible rfl)
          try simp only [Act.put, List.setIfInBounds_toArray, List.set_cons_zero, List.set_cons_succ]
          refine wpAnyH_take (i := 14) (oi := ⟨some 9, _, _, _, _, _⟩) (v := ?_) rfl (by kernel_rfl) (by kernel_rfl) (by kernel_rfl) (fun _ _ _ h => h) (Or.inl ⟨by rfl, ?_⟩) (by assumption) ?_
          rotate_left
          · intro w hSw; (try dsimp only at hSw); go_simp; (try with_reducible rfl)
          try simp only [Act.put, List.setIfInBounds_toArray, List.set_cons_zero, List.set_cons_succ]
          refine wpAnyH_done (by kernel_rfl) ?_ _
          go_wp2_with fail
          go_meet
          exact ⟨g9, g10, A7, c7, Ao7, co7, Ab7, cb7, _, rfl, rfl, rfl, rfl, ⟨BL.out, F9.out, F10.out, HQ.out, HK.out, by omega, by omega, by omega, HN9.out, HN10.out, fun b hb => hb.elim (fun k => k.elim .inl (fun k => .inr (by omega))) (fun k => .inr (by omega))⟩⟩
      ·
        rw [if_pos (by rfl)]
        refine step_alloc 27 rfl (poL po0 none 0) info_zpo ?_; intro g9 w9 e9 hb9 y9 z9
        have HP := Go.Lib.hid (HP.out.at y9)
        have FB := Go.Lib.hid (FB.out.keep y9 FB.out.lt)
        have HX := Go.Lib.hid (HX.out.at y9)
        have BL := Go.Lib.hid (BL.out.trans (y9.mono (by omega)))
        have F9 := Go.Lib.hid hb9; clear hb9
        refine hKc.out _ _ (hHeld.keep y9 hHeld.lt) (fun hHeld => ?_)
        clear hKc Kc
        try simp only [Act.put, List.setIfInBounds_toArray, List.set_cons_zero, List.set_cons_succ]
        refine wpAnyH_ready (rs := [3, 10]) (by kernel_rfl) (by simp) (AllReadyH.cons (o := ⟨some 27, _, _, _, _, _⟩) rfl (fun Kc hKc => ?_) (AllReadyH.cons (o := ⟨some 7, _, _, _, _, _⟩) rfl (fun Kc hKc => ?_) AllReadyH.nil))
        ·
          go_simp
          go_at_call 8; refine (ctake p1 A4 c4 x2 none 0 (some ⟨gB, 0, none⟩) 8 _ _ tk2 take_x2 HP.out HX.out right_p1 (by decide) (by decide)).mono ?_; rintro e7 w7 ⟨A7, c7, Ao7, co7, Ab7, cb7, rfl, hq, hk, y7⟩; have HQ := Go.Lib.hid hq; have HK := Go.Lib.hid hk; clear hq hk; have z7 := y7.size; dsimp only
          have F9 := Go.Lib.hid (F9.out.keep y7 F9.out.lt)
          have BL := Go.Lib.hid (BL.out.trans (y7.mono (by omega)))
          refine hKc.out _ _ (hHeld.keep y7 hHeld.lt) (fun hHeld => ?_)
          clear hKc Kc
          try simp only [Act.put, List.setIfInBounds_toArray, List.set_cons_zero, List.set_cons_succ]
          refine wpAnyH_take (i := 4) (oi := ⟨some 23, _, _, _, _, _⟩) (v := ?_) rfl (by kernel_rfl) (by kernel_rfl) (by kernel_rfl) (fun _ _ _ h => h) (Or.inl ⟨by rfl, ?_⟩) (by assumption) ?_
          rotate_left
          · intro w hSw; (try dsimp only at hSw); go_simp; (try with_reducible rfl)
          try simp only [Act.put, List.setIfInBounds_toArray, List.set_cons_zero, List.set_cons_succ]
          refine wpAnyH_take (i := 5) (oi := ⟨some 28, _, _, _, _, _⟩) (v := ?_) rfl (by kernel_rfl) (by kernel_rfl) (by kernel_rfl) (fun _ _ _ h => h) (Or.inl ⟨by rfl, ?_⟩) (by assumption) ?_
          rotate_left
          · intro w hSw; (try dsimp only at hSw); go_simp; (try with_reducible rfl)
          try simp only [Act.put, List.setIfInBounds_toArray, List.set_cons_zero, List.set_cons_succ]
          refine wpAnyH_take (i := 6) (oi := ⟨some 29, _, _, _, _, _⟩) (v := ?_) rfl (by kernel_rfl) (by kernel_rfl) (by kernel_rfl) (fun _ _ _ h => h) (Or.inl ⟨by rfl, ?_⟩) (by assumption) ?_
          rotate_left
          · intro w hSw; (try dsimp only at hSw); go_simp; (try with_reducible rfl)
          try simp only [Act.put, List.setIfInBounds_toArray, List.set_cons_zero, List.set_cons_succ]
          refine wpAnyH_take (i := 7) (oi := ⟨some 30, _, _, _, _, _⟩) (v := ?_) rfl (by kernel_rfl) (by kernel_rfl) (by kernel_rfl) (fun _ _ _ h => h) (Or.inl ⟨by rfl, ?_⟩) (by assumption) ?_
          rotate_left
          · intro w hSw; (try dsimp only at hSw); go_simp; (try with_reducible rfl)
          try simp only [Act.put, List.setIfInBounds_toArray, List.set_cons_zero, List.set_cons_succ]
          refine wpAnyH_take (i := 8) (oi := ⟨some 31, _, _, _, _, _⟩) (v := ?_) rfl (by kernel_rfl) (by kernel_rfl) (by kernel_rfl) (fun _ _ _ h => h) (Or.inl ⟨by rfl, ?_⟩) (by assumption) ?_
          rotate_left
          · intro w hSw; (try dsimp only at hSw); go_simp; (try with_reducible rfl)
          try simp only [Act.put, List.setIfInBounds_toArray, List.set_cons_zero, List.set_cons_succ]
          refine wpAnyH_ready (rs := [10]) (by kernel_rfl) (by simp) (AllReadyH.cons (o := ⟨some 7, _, _, _, _, _⟩) rfl (fun Kc hKc => ?_) AllReadyH.nil)
          rw [if_pos (by rfl)]
          refine step_alloc 33 rfl (pkL pk0 none 0 none 0) info_zpk ?_; intro g10 w10 e10 hb10 y10 z10
          have F9 := Go.Lib.hid (F9.out.keep y10 F9.out.lt)
          have HQ := Go.Lib.hid (HQ.out.at y10)
          have HK := Go.Lib.hid (HK.out.at y10)
          have BL := Go.Lib.hid (BL.out.trans (y10.mono (by omega)))
          have F10 := Go.Lib.hid hb10; clear hb10
          refine hKc.out _ _ (hHeld.keep y10 hHeld.lt) (fun hHeld => ?_)
          clear hKc Kc
          try simp only [Act.put, List.setIfInBounds_toArray, List.set_cons_zero, List.set_cons_succ]
          refine wpAnyH_ready (rs := [11]) (by kernel_rfl) (by simp) (AllReadyH.cons (o := ⟨none, _, _, _, _, _⟩) rfl (fun Kc hKc => ?_) AllReadyH.nil)
          have HN9 : Hid (¬ growV (fun b => growV U1 W2 w4 b ∨ b = gB) w9 w7 g9) := Go.Lib.hid (fun h => h.elim (fun k => k.elim (fun k => by have := HUlt.out _ k; omega) (fun k => by omega)) (fun k => by omega))
          have HN10 : Hid (¬ growV (fun b => growV U1 W2 w4 b ∨ b = gB) w9 w7 g10) := Go.Lib.hid (fun h => h.elim (fun k => k.elim (fun k => by have := HUlt.out _ k; omega) (fun k => by omega)) (fun k => by omega))
          rw [if_pos (by rfl)]
          refine step_store_whole 27 _ _ rfl g9 _ (poL tk2.pool A7 c7) rfl rfl F9.out info_po rfl (by simp [Value.oneCell']) ?_; intro v9 hb9 ho9; have F9 := Go.Lib.hid hb9; clear hb9; have zv9 := Nat.le_of_eq ho9.size; have zu9 := Nat.le_of_eq ho9.size.symm
          have F10 := Go.Lib.hid (F10.out.only ho9 (by omega))
          have HQ := Go.Lib.hid (HQ.out.only ho9 HN9.out); have HK := Go.Lib.hid (HK.out.only ho9 HN9.out)
          have BL := Go.Lib.hid (BL.out.trans (ho9.below (by omega)))
          refine hKc.out _ _ (hHeld.only ho9 (by omega)) (fun hHeld => ?_)
          clear hKc Kc
          try simp only [Act.put, List.setIfInBounds_toArray, List.set_cons_zero, List.set_cons_succ]
          refine wpAnyH_ready (rs := [12]) (by kernel_rfl) (by simp) (AllReadyH.cons (o := ⟨none, _, _, _, _, _⟩) rfl (fun Kc hKc => ?_) AllReadyH.nil)
          rw [if_pos (by rfl)]
          refine step_store_whole 33 _ _ rfl g10 _ (pkL tk2.out Ao7 co7 Ab7 cb7) rfl rfl F10.out info_pk rfl (by simp [Value.oneCell']) ?_; intro v10 hb10 ho10; have F10 := Go.Lib.hid hb10; clear hb10; have zv10 := Nat.le_of_eq ho10.size; have zu10 := Nat.le_of_eq ho10.size.symm
          have F9 := Go.Lib.hid (F9.out.only ho10 (by omega))
          have HQ := Go.Lib.hid (HQ.out.only ho10 HN10.out); have HK := Go.Lib.hid (HK.out.only ho10 HN10.out)
          have BL := Go.Lib.hid (BL.out.trans (ho10.below (by omega)))
          refine hKc.out _ _ (hHeld.only ho10 (by omega)) (fun hHeld => ?_)
          clear hKc Kc
          try simp only [Act.put, List.setIfInBounds_toArray, List.set_cons_zero, List.set_cons_succ]
          refine wpAnyH_take (i := 13) (oi := ⟨some 8, _, _, _, _, _⟩) (v := ?_) rfl (by kernel_rfl) (by kernel_rfl) (by kernel_rfl) (fun _ _ _ h => h) (Or.inl ⟨by rfl, ?_⟩) (by assumption) ?_
          rotate_left
          · intro w hSw; (try dsimp only at hSw); go_simp; (try with_reducible rfl)
          try simp only [Act.put, List.setIfInBounds_toArray, List.set_cons_zero, List.set_cons_succ]
          refine wpAnyH_take (i := 14) (oi := ⟨some 9, _, _, _, _, _⟩) (v := ?_) rfl (by kernel_rfl) (by kernel_rfl) (by kernel_rfl) (fun _ _ _ h => h) (Or.inl ⟨by rfl, ?_⟩) (by assumption) ?_
          rotate_left
          · intro w hSw; (try dsimp only at hSw); go_simp; (try with_reducible rfl)
          try simp only [Act.put, List.setIfInBounds_toArray, List.set_cons_zero, List.set_cons_succ]
          refine wpAnyH_done (by kernel_rfl) ?_ _
          go_wp2_with fail
          go_meet
          exact ⟨g9, g10, A7, c7, Ao7, co7, Ab7, cb7, _, rfl, rfl, rfl, rfl, ⟨BL.out, F9.out, F10.out, HQ.out, HK.out, by omega, by omega, by omega, HN9.out, HN10.out, fun b hb => hb.elim (fun k => k.elim .inl (fun k => .inr (by omega))) (fun k => .inr (by omega))⟩⟩
        ·
          rw [if_pos (by rfl)]
          refine step_alloc 33 rfl (pkL pk0 none 0 none 0) info_zpk ?_; intro g10 w10 e10 hb10 y10 z10
          have HP := Go.Lib.hid (HP.out.at y10)
          have FB := Go.Lib.hid (FB.out.keep y10 FB.out.lt)
          have HX := Go.Lib.hid (HX.out.at y10)
          have F9 := Go.Lib.hid (F9.out.keep y10 F9.out.lt)
          have BL := Go.Lib.hid (BL.out.trans (y10.mono (by omega)))
          have F10 := Go.Lib.hid hb10; clear hb10
          refine hKc.out _ _ (hHeld.keep y10 hHeld.lt) (fun hHeld => ?_)
          clear hKc Kc
          try simp only [Act.put, List.setIfInBounds_toArray, List.set_cons_zero, List.set_cons_succ]
          refine wpAnyH_ready (rs := [3]) (by kernel_rfl) (by simp) (AllReadyH.cons (o := ⟨some 27, _, _, _, _, _⟩) rfl (fun Kc hKc => ?_) AllReadyH.nil)
          go_simp
          go_at_call 8; refine (ctake p1 A4 c4 x2 none 0 (some ⟨gB, 0, none⟩) 8 _ _ tk2 take_x2 HP.out HX.out right_p1 (by decide) (by decide)).mono ?_; rintro e7 w7 ⟨A7, c7, Ao7, co7, Ab7, cb7, rfl, hq, hk, y7⟩; have HQ := Go.Lib.hid hq; have HK := Go.Lib.hid hk; clear hq hk; have z7 := y7.size; dsimp only
          have F9 := Go.Lib.hid (F9.out.keep y7 F9.out.lt)
          have F10 := Go.Lib.hid (F10.out.keep y7 F10.out.lt)
          have BL := Go.Lib.hid (BL.out.trans (y7.mono (by omega)))
          refine hKc.out _ _ (hHeld.keep y7 hHeld.lt) (fun hHeld => ?_)
          clear hKc Kc
          try simp only [Act.put, List.setIfInBounds_toArray, List.set_cons_zero, List.set_cons_succ]
          refine wpAnyH_take (i := 4) (oi := ⟨some 23, _, _, _, _, _⟩) (v := ?_) rfl (by kernel_rfl) (by kernel_rfl) (by kernel_rfl) (fun _ _ _ h => h) (Or.inl ⟨by rfl, ?_⟩) (by assumption) ?_
          rotate_left
          · intro w hSw; (try dsimp only at hSw); go_simp; (try with_reducible rfl)
          try simp only [Act.put, List.setIfInBounds_toArray, List.set_cons_zero, List.set_cons_succ]
          refine wpAnyH_take (i := 5) (oi := ⟨some 28, _, _, _, _, _⟩) (v := ?_) rfl (by kernel_rfl) (by kernel_rfl) (by kernel_rfl) (fun _ _ _ h => h) (Or.inl ⟨by rfl, ?_⟩) (by assumption) ?_
          rotate_left
          · intro w hSw; (try dsimp only at hSw); go_simp; (try with_reducible rfl)
          try simp only [Act.put, List.setIfInBounds_toArray, List.set_cons_zero, List.set_cons_succ]
          refine wpAnyH_take (i := 6) (oi := ⟨some 29, _, _, _, _, _⟩) (v := ?_) rfl (by kernel_rfl) (by kernel_rfl) (by kernel_rfl) (fun _ _ _ h => h) (Or.inl ⟨by rfl, ?_⟩) (by assumption) ?_
          rotate_left
          · intro w hSw; (try dsimp only at hSw); go_simp; (try with_reducible rfl)
          try simp only [Act.put, List.setIfInBounds_toArray, List.set_cons_zero, List.set_cons_succ]
          refine wpAnyH_take (i := 7) (oi := ⟨some 30, _, _, _, _, _⟩) (v := ?_) rfl (by kernel_rfl) (by kernel_rfl) (by kernel_rfl) (fun _ _ _ h => h) (Or.inl ⟨by rfl, ?_⟩) (by assumption) ?_
          rotate_left
          · intro w hSw; (try dsimp only at hSw); go_simp; (try with_reducible rfl)
          try simp only [Act.put, List.setIfInBounds_toArray, List.set_cons_zero, List.set_cons_succ]
          refine wpAnyH_take (i := 8) (oi := ⟨some 31, _, _, _, _, _⟩) (v := ?_) rfl (by kernel_rfl) (by kernel_rfl) (by kernel_rfl) (fun _ _ _ h => h) (Or.inl ⟨by rfl, ?_⟩) (by assumption) ?_
          rotate_left
          · intro w hSw; (try dsimp only at hSw); go_simp; (try with_reducible rfl)
          try simp only [Act.put, List.setIfInBounds_toArray, List.set_cons_zero, List.set_cons_succ]
          refine wpAnyH_ready (rs := [11]) (by kernel_rfl) (by simp) (AllReadyH.cons (o := ⟨none, _, _, _, _, _⟩) rfl (fun Kc hKc => ?_) AllReadyH.nil)
          have HN9 : Hid (¬ growV (fun b => growV U1 W2 w4 b ∨ b = gB) w10 w7 g9) := Go.Lib.hid (fun h => h.elim (fun k => k.elim (fun k => by have := HUlt.out _ k; omega) (fun k => by omega)) (fun k => by omega))
          have HN10 : Hid (¬ growV (fun b => growV U1 W2 w4 b ∨ b = gB) w10 w7 g10) := Go.Lib.hid (fun h => h.elim (fun k => k.elim (fun k => by have := HUlt.out _ k; omega) (fun k => by omega)) (fun k => by omega))
          rw [if_pos (by rfl)]
          refine step_store_whole 27 _ _ rfl g9 _ (poL tk2.pool A7 c7) rfl rfl F9.out info_po rfl (by simp [Value.oneCell']) ?_; intro v9 hb9 ho9; have F9 := Go.Lib.hid hb9; clear hb9; have zv9 := Nat.le_of_eq ho9.size; have zu9 := Nat.le_of_eq ho9.size.symm
          have F10 := Go.Lib.hid (F10.out.only ho9 (by omega))
          have HQ := Go.Lib.hid (HQ.out.only ho9 HN9.out); have HK := Go.Lib.hid (HK.out.only ho9 HN9.out)
          have BL := Go.Lib.hid (BL.out.trans (ho9.below (by omega)))
          refine hKc.out _ _ (hHeld.only ho9 (by omega)) (fun hHeld => ?_)
          clear hKc Kc
          try simp only [Act.put, List.setIfInBounds_toArray, List.set_cons_zero, List.set_cons_succ]
          refine wpAnyH_ready (rs := [12]) (by kernel_rfl) (by simp) (AllReadyH.cons (o := ⟨none, _, _, _, _, _⟩) rfl (fun Kc hKc => ?_) AllReadyH.nil)
          rw [if_pos (by rfl)]
          refine step_store_whole 33 _ _ rfl g10 _ (pkL tk2.out Ao7 co7 Ab7 cb7) rfl rfl F10.out info_pk rfl (by simp [Value.oneCell']) ?_; intro v10 hb10 ho10; have F10 := Go.Lib.hid hb10; clear hb10; have zv10 := Nat.le_of_eq ho10.size; have zu10 := Nat.le_of_eq ho10.size.symm
          have F9 := Go.Lib.hid (F9.out.only ho10 (by omega))
          have HQ := Go.Lib.hid (HQ.out.only ho10 HN10.out); have HK := Go.Lib.hid (HK.out.only ho10 HN10.out)
          have BL := Go.Lib.hid (BL.out.trans (ho10.below (by omega)))
          refine hKc.out _ _ (hHeld.only ho10 (by omega)) (fun hHeld => ?_)
          clear hKc Kc
          try simp only [Act.put, List.setIfInBounds_toArray, List.set_cons_zero, List.set_cons_succ]
          refine wpAnyH_take (i := 13) (oi := ⟨some 8, _, _, _, _, _⟩) (v := ?_) rfl (by kernel_rfl) (by kernel_rfl) (by kernel_rfl) (fun _ _ _ h => h) (Or.inl ⟨by rfl, ?_⟩) (by assumption) ?_
          rotate_left
          · intro w hSw; (try dsimp only at hSw); go_simp; (try with_reducible rfl)
          try simp only [Act.put, List.setIfInBounds_toArray, List.set_cons_zero, List.set_cons_succ]
          refine wpAnyH_take (i := 14) (oi := ⟨some 9, _, _, _, _, _⟩) (v := ?_) rfl (by kernel_rfl) (by kernel_rfl) (by kernel_rfl) (fun _ _ _ h => h) (Or.inl ⟨by rfl, ?_⟩) (by assumption) ?_
          rotate_left
          · intro w hSw; (try dsimp only at hSw); go_simp; (try with_reducible rfl)
          try simp only [Act.put, List.setIfInBounds_toArray, List.set_cons_zero, List.set_cons_succ]
          refine wpAnyH_done (by kernel_rfl) ?_ _
          go_wp2_with fail
          go_meet
          exact ⟨g9, g10, A7, c7, Ao7, co7, Ab7, cb7, _, rfl, rfl, rfl, rfl, ⟨BL.out, F9.out, F10.out, HQ.out, HK.out, by omega, by omega, by omega, HN9.out, HN10.out, fun b hb => hb.elim (fun k => k.elim .inl (fun k => .inr (by omega))) (fun k => .inr (by omega))⟩⟩
      ·
        rw [if_pos (by rfl)]
        refine step_alloc 33 rfl (pkL pk0 none 0 none 0) info_zpk ?_; intro g10 w10 e10 hb10 y10 z10
        have HP := Go.Lib.hid (HP.out.at y10)
        have FB := Go.Lib.hid (FB.out.keep y10 FB.out.lt)
        have HX := Go.Lib.hid (HX.out.at y10)
        have BL := Go.Lib.hid (BL.out.trans (y10.mono (by omega)))
        have F10 := Go.Lib.hid hb10; clear hb10
        refine hKc.out _ _ (hHeld.keep y10 hHeld.lt) (fun hHeld => ?_)
        clear hKc Kc
        try simp only [Act.put, List.setIfInBounds_toArray, List.set_cons_zero, List.set_cons_succ]
        refine wpAnyH_ready (rs := [3, 9]) (by kernel_rfl) (by simp) (AllReadyH.cons (o := ⟨some 27, _, _, _, _, _⟩) rfl (fun Kc hKc => ?_) (AllReadyH.cons (o := ⟨some 6, _, _, _, _, _⟩) rfl (fun Kc hKc => ?_) AllReadyH.nil))
        ·
          go_simp
          go_at_call 8; refine (ctake p1 A4 c4 x2 none 0 (some ⟨gB, 0, none⟩) 8 _ _ tk2 take_x2 HP.out HX.out right_p1 (by decide) (by decide)).mono ?_; rintro e7 w7 ⟨A7, c7, Ao7, co7, Ab7, cb7, rfl, hq, hk, y7⟩; have HQ := Go.Lib.hid hq; have HK := Go.Lib.hid hk; clear hq hk; have z7 := y7.size; dsimp only
          have F10 := Go.Lib.hid (F10.out.keep y7 F10.out.lt)
          have BL := Go.Lib.hid (BL.out.trans (y7.mono (by omega)))
          refine hKc.out _ _ (hHeld.keep y7 hHeld.lt) (fun hHeld => ?_)
          clear hKc Kc
          try simp only [Act.put, List.setIfInBounds_toArray, List.set_cons_zero, List.set_cons_succ]
          refine wpAnyH_take (i := 4) (oi := ⟨some 23, _, _, _, _, _⟩) (v := ?_) rfl (by kernel_rfl) (by kernel_rfl) (by kernel_rfl) (fun _ _ _ h => h) (Or.inl ⟨by rfl, ?_⟩) (by assumption) ?_
          rotate_left
          · intro w hSw; (try dsimp only at hSw); go_simp; (try with_reducible rfl)
          try simp only [Act.put, List.setIfInBounds_toArray, List.set_cons_zero, List.set_cons_succ]
          refine wpAnyH_take (i := 5) (oi := ⟨some 28, _, _, _, _, _⟩) (v := ?_) rfl (by kernel_rfl) (by kernel_rfl) (by kernel_rfl) (fun _ _ _ h => h) (Or.inl ⟨by rfl, ?_⟩) (by assumption) ?_
          rotate_left
          · intro w hSw; (try dsimp only at hSw); go_simp; (try with_reducible rfl)
          try simp only [Act.put, List.setIfInBounds_toArray, List.set_cons_zero, List.set_cons_succ]
          refine wpAnyH_take (i := 6) (oi := ⟨some 29, _, _, _, _, _⟩) (v := ?_) rfl (by kernel_rfl) (by kernel_rfl) (by kernel_rfl) (fun _ _ _ h => h) (Or.inl ⟨by rfl, ?_⟩) (by assumption) ?_
          rotate_left
          · intro w hSw; (try dsimp only at hSw); go_simp; (try with_reducible rfl)
          try simp only [Act.put, List.setIfInBounds_toArray, List.set_cons_zero, List.set_cons_succ]
          refine wpAnyH_take (i := 7) (oi := ⟨some 30, _, _, _, _, _⟩) (v := ?_) rfl (by kernel_rfl) (by kernel_rfl) (by kernel_rfl) (fun _ _ _ h => h) (Or.inl ⟨by rfl, ?_⟩) (by assumption) ?_
          rotate_left
          · intro w hSw; (try dsimp only at hSw); go_simp; (try with_reducible rfl)
          try simp only [Act.put, List.setIfInBounds_toArray, List.set_cons_zero, List.set_cons_succ]
          refine wpAnyH_take (i := 8) (oi := ⟨some 31, _, _, _, _, _⟩) (v := ?_) rfl (by kernel_rfl) (by kernel_rfl) (by kernel_rfl) (fun _ _ _ h => h) (Or.inl ⟨by rfl, ?_⟩) (by assumption) ?_
          rotate_left
          · intro w hSw; (try dsimp only at hSw); go_simp; (try with_reducible rfl)
          try simp only [Act.put, List.setIfInBounds_toArray, List.set_cons_zero, List.set_cons_succ]
          refine wpAnyH_ready (rs := [9]) (by kernel_rfl) (by simp) (AllReadyH.cons (o := ⟨some 6, _, _, _, _, _⟩) rfl (fun Kc hKc => ?_) AllReadyH.nil)
          rw [if_pos (by rfl)]
          refine step_alloc 27 rfl (poL po0 none 0) info_zpo ?_; intro g9 w9 e9 hb9 y9 z9
          have F10 := Go.Lib.hid (F10.out.keep y9 F10.out.lt)
          have HQ := Go.Lib.hid (HQ.out.at y9)
          have HK := Go.Lib.hid (HK.out.at y9)
          have BL := Go.Lib.hid (BL.out.trans (y9.mono (by omega)))
          have F9 := Go.Lib.hid hb9; clear hb9
          refine hKc.out _ _ (hHeld.keep y9 hHeld.lt) (fun hHeld => ?_)
          clear hKc Kc
          try simp only [Act.put, List.setIfInBounds_toArray, List.set_cons_zero, List.set_cons_succ]
          refine wpAnyH_ready (rs := [11]) (by kernel_rfl) (by simp) (AllReadyH.cons (o := ⟨none, _, _, _, _, _⟩) rfl (fun Kc hKc => ?_) AllReadyH.nil)
          have HN9 : Hid (¬ growV (fun b => growV U1 W2 w4 b ∨ b = gB) w10 w7 g9) := Go.Lib.hid (fun h => h.elim (fun k => k.elim (fun k => by have := HUlt.out _ k; omega) (fun k => by omega)) (fun k => by omega))
          have HN10 : Hid (¬ growV (fun b => growV U1 W2 w4 b ∨ b = gB) w10 w7 g10) := Go.Lib.hid (fun h => h.elim (fun k => k.elim (fun k => by have := HUlt.out _ k; omega) (fun k => by omega)) (fun k => by omega))
          rw [if_pos (by rfl)]
          refine step_store_whole 27 _ _ rfl g9 _ (poL tk2.pool A7 c7) rfl rfl F9.out info_po rfl (by simp [Value.oneCell']) ?_; intro v9 hb9 ho9; have F9 := Go.Lib.hid hb9; clear hb9; have zv9 := Nat.le_of_eq ho9.size; have zu9 := Nat.le_of_eq ho9.size.symm
          have F10 := Go.Lib.hid (F10.out.only ho9 (by omega))
          have HQ := Go.Lib.hid (HQ.out.only ho9 HN9.out); have HK := Go.Lib.hid (HK.out.only ho9 HN9.out)
          have BL := Go.Lib.hid (BL.out.trans (ho9.below (by omega)))
          refine hKc.out _ _ (hHeld.only ho9 (by omega)) (fun hHeld => ?_)
          clear hKc Kc
          try simp only [Act.put, List.setIfInBounds_toArray, List.set_cons_zero, List.set_cons_succ]
          refine wpAnyH_ready (rs := [12]) (by kernel_rfl) (by simp) (AllReadyH.cons (o := ⟨none, _, _, _, _, _⟩) rfl (fun Kc hKc => ?_) AllReadyH.nil)
          rw [if_pos (by rfl)]
          refine step_store_whole 33 _ _ rfl g10 _ (pkL tk2.out Ao7 co7 Ab7 cb7) rfl rfl F10.out info_pk rfl (by simp [Value.oneCell']) ?_; intro v10 hb10 ho10; have F10 := Go.Lib.hid hb10; clear hb10; have zv10 := Nat.le_of_eq ho10.size; have zu10 := Nat.le_of_eq ho10.size.symm
          have F9 := Go.Lib.hid (F9.out.only ho10 (by omega))
          have HQ := Go.Lib.hid (HQ.out.only ho10 HN10.out); have HK := Go.Lib.hid (HK.out.only ho10 HN10.out)
          have BL := Go.Lib.hid (BL.out.trans (ho10.below (by omega)))
          refine hKc.out _ _ (hHeld.only ho10 (by omega)) (fun hHeld => ?_)
          clear hKc Kc
          try simp only [Act.put, List.setIfInBounds_toArray, List.set_cons_zero, List.set_cons_succ]
          refine wpAnyH_take (i := 13) (oi := ⟨some 8, _, _, _, _, _⟩) (v := ?_) rfl (by kernel_rfl) (by kernel_rfl) (by kernel_rfl) (fun _ _ _ h => h) (Or.inl ⟨by rfl, ?_⟩) (by assumption) ?_
          rotate_left
          · intro w hSw; (try dsimp only at hSw); go_simp; (try with_reducible rfl)
          try simp only [Act.put, List.setIfInBounds_toArray, List.set_cons_zero, List.set_cons_succ]
          refine wpAnyH_take (i := 14) (oi := ⟨some 9, _, _, _, _, _⟩) (v := ?_) rfl (by kernel_rfl) (by kernel_rfl) (by kernel_rfl) (fun _ _ _ h => h) (Or.inl ⟨by rfl, ?_⟩) (by assumption) ?_
          rotate_left
          · intro w hSw; (try dsimp only at hSw); go_simp; (try with_reducible rfl)
          try simp only [Act.put, List.setIfInBounds_toArray, List.set_cons_zero, List.set_cons_succ]
          refine wpAnyH_done (by kernel_rfl) ?_ _
          go_wp2_with fail
          go_meet
          exact ⟨g9, g10, A7, c7, Ao7, co7, Ab7, cb7, _, rfl, rfl, rfl, rfl, ⟨BL.out, F9.out, F10.out, HQ.out, HK.out, by omega, by omega, by omega, HN9.out, HN10.out, fun b hb => hb.elim (fun k => k.elim .inl (fun k => .inr (by omega))) (fun k => .inr (by omega))⟩⟩
        ·
          rw [if_pos (by rfl)]
          refine step_alloc 27 rfl (poL po0 none 0) info_zpo ?_; intro g9 w9 e9 hb9 y9 z9
          have HP := Go.Lib.hid (HP.out.at y9)
          have FB := Go.Lib.hid (FB.out.keep y9 FB.out.lt)
          have HX := Go.Lib.hid (HX.out.at y9)
          have F10 := Go.Lib.hid (F10.out.keep y9 F10.out.lt)
          have BL := Go.Lib.hid (BL.out.trans (y9.mono (by omega)))
          have F9 := Go.Lib.hid hb9; clear hb9
          refine hKc.out _ _ (hHeld.keep y9 hHeld.lt) (fun hHeld => ?_)
          clear hKc Kc
          try simp only [Act.put, List.setIfInBounds_toArray, List.set_cons_zero, List.set_cons_succ]
          refine wpAnyH_ready (rs := [3]) (by kernel_rfl) (by simp) (AllReadyH.cons (o := ⟨some 27, _, _, _, _, _⟩) rfl (fun Kc hKc => ?_) AllReadyH.nil)
          go_simp
          go_at_call 8; refine (ctake p1 A4 c4 x2 none 0 (some ⟨gB, 0, none⟩) 8 _ _ tk2 take_x2 HP.out HX.out right_p1 (by decide) (by decide)).mono ?_; rintro e7 w7 ⟨A7, c7, Ao7, co7, Ab7, cb7, rfl, hq, hk, y7⟩; have HQ := Go.Lib.hid hq; have HK := Go.Lib.hid hk; clear hq hk; have z7 := y7.size; dsimp only
          have F10 := Go.Lib.hid (F10.out.keep y7 F10.out.lt)
          have F9 := Go.Lib.hid (F9.out.keep y7 F9.out.lt)
          have BL := Go.Lib.hid (BL.out.trans (y7.mono (by omega)))
          refine hKc.out _ _ (hHeld.keep y7 hHeld.lt) (fun hHeld => ?_)
          clear hKc Kc
          try simp only [Act.put, List.setIfInBounds_toArray, List.set_cons_zero, List.set_cons_succ]
          refine wpAnyH_take (i := 4) (oi := ⟨some 23, _, _, _, _, _⟩) (v := ?_) rfl (by kernel_rfl) (by kernel_rfl) (by kernel_rfl) (fun _ _ _ h => h) (Or.inl ⟨by rfl, ?_⟩) (by assumption) ?_
          rotate_left
          · intro w hSw; (try dsimp only at hSw); go_simp; (try with_reducible rfl)
          try simp only [Act.put, List.setIfInBounds_toArray, List.set_cons_zero, List.set_cons_succ]
          refine wpAnyH_take (i := 5) (oi := ⟨some 28, _, _, _, _, _⟩) (v := ?_) rfl (by kernel_rfl) (by kernel_rfl) (by kernel_rfl) (fun _ _ _ h => h) (Or.inl ⟨by rfl, ?_⟩) (by assumption) ?_
          rotate_left
          · intro w hSw; (try dsimp only at hSw); go_simp; (try with_reducible rfl)
          try simp only [Act.put, List.setIfInBounds_toArray, List.set_cons_zero, List.set_cons_succ]
          refine wpAnyH_take (i := 6) (oi := ⟨some 29, _, _, _, _, _⟩) (v := ?_) rfl (by kernel_rfl) (by kernel_rfl) (by kernel_rfl) (fun _ _ _ h => h) (Or.inl ⟨by rfl, ?_⟩) (by assumption) ?_
          rotate_left
          · intro w hSw; (try dsimp only at hSw); go_simp; (try with_reducible rfl)
          try simp only [Act.put, List.setIfInBounds_toArray, List.set_cons_zero, List.set_cons_succ]
          refine wpAnyH_take (i := 7) (oi := ⟨some 30, _, _, _, _, _⟩) (v := ?_) rfl (by kernel_rfl) (by kernel_rfl) (by kernel_rfl) (fun _ _ _ h => h) (Or.inl ⟨by rfl, ?_⟩) (by assumption) ?_
          rotate_left
          · intro w hSw; (try dsimp only at hSw); go_simp; (try with_reducible rfl)
          try simp only [Act.put, List.setIfInBounds_toArray, List.set_cons_zero, List.set_cons_succ]
          refine wpAnyH_take (i := 8) (oi := ⟨some 31, _, _, _, _, _⟩) (v := ?_) rfl (by kernel_rfl) (by kernel_rfl) (by kernel_rfl) (fun _ _ _ h => h) (Or.inl ⟨by rfl, ?_⟩) (by assumption) ?_
          rotate_left
          · intro w hSw; (try dsimp only at hSw); go_simp; (try with_reducible rfl)
          try simp only [Act.put, List.setIfInBounds_toArray, List.set_cons_zero, List.set_cons_succ]
          refine wpAnyH_ready (rs := [11]) (by kernel_rfl) (by simp) (AllReadyH.cons (o := ⟨none, _, _, _, _, _⟩) rfl (fun Kc hKc => ?_) AllReadyH.nil)
          have HN9 : Hid (¬ growV (fun b => growV U1 W2 w4 b ∨ b = gB) w9 w7 g9) := Go.Lib.hid (fun h => h.elim (fun k => k.elim (fun k => by have := HUlt.out _ k; omega) (fun k => by omega)) (fun k => by omega))
          have HN10 : Hid (¬ growV (fun b => growV U1 W2 w4 b ∨ b = gB) w9 w7 g10) := Go.Lib.hid (fun h => h.elim (fun k => k.elim (fun k => by have := HUlt.out _ k; omega) (fun k => by omega)) (fun k => by omega))
          rw [if_pos (by rfl)]
          refine step_store_whole 27 _ _ rfl g9 _ (poL tk2.pool A7 c7) rfl rfl F9.out info_po rfl (by simp [Value.oneCell']) ?_; intro v9 hb9 ho9; have F9 := Go.Lib.hid hb9; clear hb9; have zv9 := Nat.le_of_eq ho9.size; have zu9 := Nat.le_of_eq ho9.size.symm
          have F10 := Go.Lib.hid (F10.out.only ho9 (by omega))
          have HQ := Go.Lib.hid (HQ.out.only ho9 HN9.out); have HK := Go.Lib.hid (HK.out.only ho9 HN9.out)
          have BL := Go.Lib.hid (BL.out.trans (ho9.below (by omega)))
          refine hKc.out _ _ (hHeld.only ho9 (by omega)) (fun hHeld => ?_)
          clear hKc Kc
          try simp only [Act.put, List.setIfInBounds_toArray, List.set_cons_zero, List.set_cons_succ]
          refine wpAnyH_ready (rs := [12]) (by kernel_rfl) (by simp) (AllReadyH.cons (o := ⟨none, _, _, _, _, _⟩) rfl (fun Kc hKc => ?_) AllReadyH.nil)
          rw [if_pos (by rfl)]
          refine step_store_whole 33 _ _ rfl g10 _ (pkL tk2.out Ao7 co7 Ab7 cb7) rfl rfl F10.out info_pk rfl (by simp [Value.oneCell']) ?_; intro v10 hb10 ho10; have F10 := Go.Lib.hid hb10; clear hb10; have zv10 := Nat.le_of_eq ho10.size; have zu10 := Nat.le_of_eq ho10.size.symm
          have F9 := Go.Lib.hid (F9.out.only ho10 (by omega))
          have HQ := Go.Lib.hid (HQ.out.only ho10 HN10.out); have HK := Go.Lib.hid (HK.out.only ho10 HN10.out)
          have BL := Go.Lib.hid (BL.out.trans (ho10.below (by omega)))
          refine hKc.out _ _ (hHeld.only ho10 (by omega)) (fun hHeld => ?_)
          clear hKc Kc
          try simp only [Act.put, List.setIfInBounds_toArray, List.set_cons_zero, List.set_cons_succ]
          refine wpAnyH_take (i := 13) (oi := ⟨some 8, _, _, _, _, _⟩) (v := ?_) rfl (by kernel_rfl) (by kernel_rfl) (by kernel_rfl) (fun _ _ _ h => h) (Or.inl ⟨by rfl, ?_⟩) (by assumption) ?_
          rotate_left
          · intro w hSw; (try dsimp only at hSw); go_simp; (try with_reducible rfl)
          try simp only [Act.put, List.setIfInBounds_toArray, List.set_cons_zero, List.set_cons_succ]
          refine wpAnyH_take (i := 14) (oi := ⟨some 9, _, _, _, _, _⟩) (v := ?_) rfl (by kernel_rfl) (by kernel_rfl) (by kernel_rfl) (fun _ _ _ h => h) (Or.inl ⟨by rfl, ?_⟩) (by assumption) ?_
          rotate_left
          · intro w hSw; (try dsimp only at hSw); go_simp; (try with_reducible rfl)
          try simp only [Act.put, List.setIfInBounds_toArray, List.set_cons_zero, List.set_cons_succ]
          refine wpAnyH_done (by kernel_rfl) ?_ _
          go_wp2_with fail
          go_meet
          exact ⟨g9, g10, A7, c7, Ao7, co7, Ab7, cb7, _, rfl, rfl, rfl, rfl, ⟨BL.out, F9.out, F10.out, HQ.out, HK.out, by omega, by omega, by omega, HN9.out, HN10.out, fun b hb => hb.elim (fun k => k.elim .inl (fun k => .inr (by omega))) (fun k => .inr (by omega))⟩⟩
    ·
      rw [if_pos (by rfl)]
      refine step_alloc 27 rfl (poL po0 none 0) info_zpo ?_; intro g9 w9 e9 hb9 y9 z9
      have HP := Go.Lib.hid (HP.out.at y9)
      have BL := Go.Lib.hid (BL.out.trans (y9.mono (by omega)))
      have F9 := Go.Lib.hid hb9; clear hb9
      refine hKc.out _ _ (hHeld.keep y9 hHeld.lt) (fun hHeld => ?_)
      clear hKc Kc
      try simp only [Act.put, List.setIfInBounds_toArray, List.set_cons_zero, List.set_cons_succ]
      refine wpAnyH_ready (rs := [1, 10]) (by kernel_rfl) (by simp) (AllReadyH.cons (o := ⟨some 25, _, _, _, _, _⟩) rfl (fun Kc hKc => ?_) (AllReadyH.cons (o := ⟨some 7, _, _, _, _, _⟩) rfl (fun Kc hKc => ?_) AllReadyH.nil))
      ·
        rw [if_pos (by rfl)]
        refine step_make8 _ 5 _ _ rfl rfl rfl Try.underlying23 info_byte ?_; intro gB wB eB hbB yB zB
        have HP := Go.Lib.hid (HP.out.at yB)
        have F9 := Go.Lib.hid (F9.out.keep yB F9.out.lt)
        have BL := Go.Lib.hid (BL.out.trans (yB.mono (by omega)))
        have FB := Go.Lib.hid hbB; clear hbB
        have HP : Hid (PoAt wB (fun b => growV U1 W2 w4 b ∨ b = gB) p1 A4 c4) := Go.Lib.hid (HP.out.more (fun b h => .inl h) (fun b h => h.elim (fun k => by have := HP.out.lt b k; omega) (fun k => by have := FB.out.lt; omega)))
        have HX : Hid (PkAt wB (fun b => growV U1 W2 w4 b ∨ b = gB) x2 none 0 (some ⟨gB, 0, none⟩) 8) := Go.Lib.hid (pk_eight _ gB FB.out (.inr rfl) HP.out.lt)
        refine hKc.out _ _ (hHeld.keep yB hHeld.lt) (fun hHeld => ?_)
        clear hKc Kc
        try simp only [Act.put, List.setIfInBounds_toArray, List.set_cons_zero, List.set_cons_succ]
        refine wpAnyH_take (i := 2) (oi := ⟨some 26, _, _, _, _, _⟩) (v := ?_) rfl (by kernel_rfl) (by kernel_rfl) (by kernel_rfl) (fun _ _ _ h => h) (Or.inl ⟨by rfl, ?_⟩) (by assumption) ?_
        rotate_left
        · intro w hSw; (try dsimp only at hSw); go_simp; (try with_reducible rfl)
        try simp only [Act.put, List.setIfInBounds_toArray, List.set_cons_zero, List.set_cons_succ]
        refine wpAnyH_ready (rs := [3, 10]) (by kernel_rfl) (by simp) (AllReadyH.cons (o := ⟨some 27, _, _, _, _, _⟩) rfl (fun Kc hKc => ?_) (AllReadyH.cons (o := ⟨some 7, _, _, _, _, _⟩) rfl (fun Kc hKc => ?_) AllReadyH.nil))
        ·
          go_simp
          go_at_call 8; refine (ctake p1 A4 c4 x2 none 0 (some ⟨gB, 0, none⟩) 8 _ _ tk2 take_x2 HP.out HX.out right_p1 (by decide) (by decide)).mono ?_; rintro e7 w7 ⟨A7, c7, Ao7, co7, Ab7, cb7, rfl, hq, hk, y7⟩; have HQ := Go.Lib.hid hq; have HK := Go.Lib.hid hk; clear hq hk; have z7 := y7.size; dsimp only
          have F9 := Go.Lib.hid (F9.out.keep y7 F9.out.lt)
          have BL := Go.Lib.hid (BL.out.trans (y7.mono (by omega)))
          refine hKc.out _ _ (hHeld.keep y7 hHeld.lt) (fun hHeld => ?_)
          clear hKc Kc
          try simp only [Act.put, List.setIfInBounds_toArray, List.set_cons_zero, List.set_cons_succ]
          refine wpAnyH_take (i := 4) (oi := ⟨some 23, _, _, _, _, _⟩) (v := ?_) rfl (by kernel_rfl) (by kernel_rfl) (by kernel_rfl) (fun _ _ _ h => h) (Or.inl ⟨by rfl, ?_⟩) (by assumption) ?_
          rotate_left
          · intro w hSw; (try dsimp only at hSw); go_simp; (try with_reducible rfl)
          try simp only [Act.put, List.setIfInBounds_toArray, List.set_cons_zero, List.set_cons_succ]
          refine wpAnyH_take (i := 5) (oi := ⟨some 28, _, _, _, _, _⟩) (v := ?_) rfl (by kernel_rfl) (by kernel_rfl) (by kernel_rfl) (fun _ _ _ h => h) (Or.inl ⟨by rfl, ?_⟩) (by assumption) ?_
          rotate_left
          · intro w hSw; (try dsimp only at hSw); go_simp; (try with_reducible rfl)
          try simp only [Act.put, List.setIfInBounds_toArray, List.set_cons_zero, List.set_cons_succ]
          refine wpAnyH_take (i := 6) (oi := ⟨some 29, _, _, _, _, _⟩) (v := ?_) rfl (by kernel_rfl) (by kernel_rfl) (by kernel_rfl) (fun _ _ _ h => h) (Or.inl ⟨by rfl, ?_⟩) (by assumption) ?_
          rotate_left
          · intro w hSw; (try dsimp only at hSw); go_simp; (try with_reducible rfl)
          try simp only [Act.put, List.setIfInBounds_toArray, List.set_cons_zero, List.set_cons_succ]
          refine wpAnyH_take (i := 7) (oi := ⟨some 30, _, _, _, _, _⟩) (v := ?_) rfl (by kernel_rfl) (by kernel_rfl) (by kernel_rfl) (fun _ _ _ h => h) (Or.inl ⟨by rfl, ?_⟩) (by assumption) ?_
          rotate_left
          · intro w hSw; (try dsimp only at hSw); go_simp; (try with_reducible rfl)
          try simp only [Act.put, List.setIfInBounds_toArray, List.set_cons_zero, List.set_cons_succ]
          refine wpAnyH_take (i := 8) (oi := ⟨some 31, _, _, _, _, _⟩) (v := ?_) rfl (by kernel_rfl) (by kernel_rfl) (by kernel_rfl) (fun _ _ _ h => h) (Or.inl ⟨by rfl, ?_⟩) (by assumption) ?_
          rotate_left
          · intro w hSw; (try dsimp only at hSw); go_simp; (try with_reducible rfl)
          try simp only [Act.put, List.setIfInBounds_toArray, List.set_cons_zero, List.set_cons_succ]
          refine wpAnyH_ready (rs := [10]) (by kernel_rfl) (by simp) (AllReadyH.cons (o := ⟨some 7, _, _, _, _, _⟩) rfl (fun Kc hKc => ?_) AllReadyH.nil)
          rw [if_pos (by rfl)]
          refine step_alloc 33 rfl (pkL pk0 none 0 none 0) info_zpk ?_; intro g10 w10 e10 hb10 y10 z10
          have F9 := Go.Lib.hid (F9.out.keep y10 F9.out.lt)
          have HQ := Go.Lib.hid (HQ.out.at y10)
          have HK := Go.Lib.hid (HK.out.at y10)
          have BL := Go.Lib.hid (BL.out.trans (y10.mono (by omega)))
          have F10 := Go.Lib.hid hb10; clear hb10
          refine hKc.out _ _ (hHeld.keep y10 hHeld.lt) (fun hHeld => ?_)
          clear hKc Kc
          try simp only [Act.put, List.setIfInBounds_toArray, List.set_cons_zero, List.set_cons_succ]
          refine wpAnyH_ready (rs := [11]) (by kernel_rfl) (by simp) (AllReadyH.cons (o := ⟨none, _, _, _, _, _⟩) rfl (fun Kc hKc => ?_) AllReadyH.nil)
          have HN9 : Hid (¬ growV (fun b => growV U1 W2 w4 b ∨ b = gB) wB w7 g9) := Go.Lib.hid (fun h => h.elim (fun k => k.elim (fun k => by have := HUlt.out _ k; omega) (fun k => by omega)) (fun k => by omega))
          have HN10 : Hid (¬ growV (fun b => growV U1 W2 w4 b ∨ b = gB) wB w7 g10) := Go.Lib.hid (fun h => h.elim (fun k => k.elim (fun k => by have := HUlt.out _ k; omega) (fun k => by omega)) (fun k => by omega))
          rw [if_pos (by rfl)]
          refine step_store_whole 27 _ _ rfl g9 _ (poL tk2.pool A7 c7) rfl rfl F9.out info_po rfl (by simp [Value.oneCell']) ?_; intro v9 hb9 ho9; have F9 := Go.Lib.hid hb9; clear hb9; have zv9 := Nat.le_of_eq ho9.size; have zu9 := Nat.le_of_eq ho9.size.symm
          have F10 := Go.Lib.hid (F10.out.only ho9 (by omega))
          have HQ := Go.Lib.hid (HQ.out.only ho9 HN9.out); have HK := Go.Lib.hid (HK.out.only ho9 HN9.out)
          have BL := Go.Lib.hid (BL.out.trans (ho9.below (by omega)))
          refine hKc.out _ _ (hHeld.only ho9 (by omega)) (fun hHeld => ?_)
          clear hKc Kc
          try simp only [Act.put, List.setIfInBounds_toArray, List.set_cons_zero, List.set_cons_succ]
          refine wpAnyH_ready (rs := [12]) (by kernel_rfl) (by simp) (AllReadyH.cons (o := ⟨none, _, _, _, _, _⟩) rfl (fun Kc hKc => ?_) AllReadyH.nil)
          rw [if_pos (by rfl)]
          refine step_store_whole 33 _ _ rfl g10 _ (pkL tk2.out Ao7 co7 Ab7 cb7) rfl rfl F10.out info_pk rfl (by simp [Value.oneCell']) ?_; intro v10 hb10 ho10; have F10 := Go.Lib.hid hb10; clear hb10; have zv10 := Nat.le_of_eq ho10.size; have zu10 := Nat.le_of_eq ho10.size.symm
          have F9 := Go.Lib.hid (F9.out.only ho10 (by omega))
          have HQ := Go.Lib.hid (HQ.out.only ho10 HN10.out); have HK := Go.Lib.hid (HK.out.only ho10 HN10.out)
          have BL := Go.Lib.hid (BL.out.trans (ho10.below (by omega)))
          refine hKc.out _ _ (hHeld.only ho10 (by omega)) (fun hHeld => ?_)
          clear hKc Kc
          try simp only [Act.put, List.setIfInBounds_toArray, List.set_cons_zero, List.set_cons_succ]
          refine wpAnyH_take (i := 13) (oi := ⟨some 8, _, _, _, _, _⟩) (v := ?_) rfl (by kernel_rfl) (by kernel_rfl) (by kernel_rfl) (fun _ _ _ h => h) (Or.inl ⟨by rfl, ?_⟩) (by assumption) ?_
          rotate_left
          · intro w hSw; (try dsimp only at hSw); go_simp; (try with_reducible rfl)
          try simp only [Act.put, List.setIfInBounds_toArray, List.set_cons_zero, List.set_cons_succ]
          refine wpAnyH_take (i := 14) (oi := ⟨some 9, _, _, _, _, _⟩) (v := ?_) rfl (by kernel_rfl) (by kernel_rfl) (by kernel_rfl) (fun _ _ _ h => h) (Or.inl ⟨by rfl, ?_⟩) (by assumption) ?_
          rotate_left
          · intro w hSw; (try dsimp only at hSw); go_simp; (try with_reducible rfl)
          try simp only [Act.put, List.setIfInBounds_toArray, List.set_cons_zero, List.set_cons_succ]
          refine wpAnyH_done (by kernel_rfl) ?_ _
          go_wp2_with fail
          go_meet
          exact ⟨g9, g10, A7, c7, Ao7, co7, Ab7, cb7, _, rfl, rfl, rfl, rfl, ⟨BL.out, F9.out, F10.out, HQ.out, HK.out, by omega, by omega, by omega, HN9.out, HN10.out, fun b hb => hb.elim (fun k => k.elim .inl (fun k => .inr (by omega))) (fun k => .inr (by omega))⟩⟩
        ·
          rw [if_pos (by rfl)]
          refine step_alloc 33 rfl (pkL pk0 none 0 none 0) info_zpk ?_; intro g10 w10 e10 hb10 y10 z10
          have HP := Go.Lib.hid (HP.out.at y10)
          have F9 := Go.Lib.hid (F9.out.keep y10 F9.out.lt)
          have FB := Go.Lib.hid (FB.out.keep y10 FB.out.lt)
          have HX := Go.Lib.hid (HX.out.at y10)
          have BL := Go.Lib.hid (BL.out.trans (y10.mono (by omega)))
          have F10 := Go.Lib.hid hb10; clear hb10
          refine hKc.out _ _ (hHeld.keep y10 hHeld.lt) (fun hHeld => ?_)
          clear hKc Kc
          try simp only [Act.put, List.setIfInBounds_toArray, List.set_cons_zero, List.set_cons_succ]
          refine wpAnyH_ready (rs := [3]) (by kernel_rfl) (by simp) (AllReadyH.cons (o := ⟨some 27, _, _, _, _, _⟩) rfl (fun Kc hKc => ?_) AllReadyH.nil)
          go_simp
          go_at_call 8; refine (ctake p1 A4 c4 x2 none 0 (some ⟨gB, 0, none⟩) 8 _ _ tk2 take_x2 HP.out HX.out right_p1 (by decide) (by decide)).mono ?_; rintro e7 w7 ⟨A7, c7, Ao7, co7, Ab7, cb7, rfl, hq, hk, y7⟩; have HQ := Go.Lib.hid hq; have HK := Go.Lib.hid hk; clear hq hk; have z7 := y7.size; dsimp only
          have F9 := Go.Lib.hid (F9.out.keep y7 F9.out.lt)
          have F10 := Go.Lib.hid (F10.out.keep y7 F10.out.lt)
          have BL := Go.Lib.hid (BL.out.trans (y7.mono (by omega)))
          refine hKc.out _ _ (hHeld.keep y7 hHeld.lt) (fun hHeld => ?_)
          clear hKc Kc
          try simp only [Act.put, List.setIfInBounds_toArray, List.set_cons_zero, List.set_cons_succ]
          refine wpAnyH_take (i := 4) (oi := ⟨some 23, _, _, _, _, _⟩) (v := ?_) rfl (by kernel_rfl) (by kernel_rfl) (by kernel_rfl) (fun _ _ _ h => h) (Or.inl ⟨by rfl, ?_⟩) (by assumption) ?_
          rotate_left
          · intro w hSw; (try dsimp only at hSw); go_simp; (try with_reducible rfl)
          try simp only [Act.put, List.setIfInBounds_toArray, List.set_cons_zero, List.set_cons_succ]
          refine wpAnyH_take (i := 5) (oi := ⟨some 28, _, _, _, _, _⟩) (v := ?_) rfl (by kernel_rfl) (by kernel_rfl) (by kernel_rfl) (fun _ _ _ h => h) (Or.inl ⟨by rfl, ?_⟩) (by assumption) ?_
          rotate_left
          · intro w hSw; (try dsimp only at hSw); go_simp; (try with_reducible rfl)
          try simp only [Act.put, List.setIfInBounds_toArray, List.set_cons_zero, List.set_cons_succ]
          refine wpAnyH_take (i := 6) (oi := ⟨some 29, _, _, _, _, _⟩) (v := ?_) rfl (by kernel_rfl) (by kernel_rfl) (by kernel_rfl) (fun _ _ _ h => h) (Or.inl ⟨by rfl, ?_⟩) (by assumption) ?_
          rotate_left
          · intro w hSw; (try dsimp only at hSw); go_simp; (try with_reducible rfl)
          try simp only [Act.put, List.setIfInBounds_toArray, List.set_cons_zero, List.set_cons_succ]
          refine wpAnyH_take (i := 7) (oi := ⟨some 30, _, _, _, _, _⟩) (v := ?_) rfl (by kernel_rfl) (by kernel_rfl) (by kernel_rfl) (fun _ _ _ h => h) (Or.inl ⟨by rfl, ?_⟩) (by assumption) ?_
          rotate_left
          · intro w hSw; (try dsimp only at hSw); go_simp; (try with_reducible rfl)
          try simp only [Act.put, List.setIfInBounds_toArray, List.set_cons_zero, List.set_cons_succ]
          refine wpAnyH_take (i := 8) (oi := ⟨some 31, _, _, _, _, _⟩) (v := ?_) rfl (by kernel_rfl) (by kernel_rfl) (by kernel_rfl) (fun _ _ _ h => h) (Or.inl ⟨by rfl, ?_⟩) (by assumption) ?_
          rotate_left
          · intro w hSw; (try dsimp only at hSw); go_simp; (try with_reducible rfl)
          try simp only [Act.put, List.setIfInBounds_toArray, List.set_cons_zero, List.set_cons_succ]
          refine wpAnyH_ready (rs := [11]) (by kernel_rfl) (by simp) (AllReadyH.cons (o := ⟨none, _, _, _, _, _⟩) rfl (fun Kc hKc => ?_) AllReadyH.nil)
          have HN9 : Hid (¬ growV (fun b => growV U1 W2 w4 b ∨ b = gB) w10 w7 g9) := Go.Lib.hid (fun h => h.elim (fun k => k.elim (fun k => by have := HUlt.out _ k; omega) (fun k => by omega)) (fun k => by omega))
          have HN10 : Hid (¬ growV (fun b => growV U1 W2 w4 b ∨ b = gB) w10 w7 g10) := Go.Lib.hid (fun h => h.elim (fun k => k.elim (fun k => by have := HUlt.out _ k; omega) (fun k => by omega)) (fun k => by omega))
          rw [if_pos (by rfl)]
          refine step_store_whole 27 _ _ rfl g9 _ (poL tk2.pool A7 c7) rfl rfl F9.out info_po rfl (by simp [Value.oneCell']) ?_; intro v9 hb9 ho9; have F9 := Go.Lib.hid hb9; clear hb9; have zv9 := Nat.le_of_eq ho9.size; have zu9 := Nat.le_of_eq ho9.size.symm
          have F10 := Go.Lib.hid (F10.out.only ho9 (by omega))
          have HQ := Go.Lib.hid (HQ.out.only ho9 HN9.out); have HK := Go.Lib.hid (HK.out.only ho9 HN9.out)
          have BL := Go.Lib.hid (BL.out.trans (ho9.below (by omega)))
          refine hKc.out _ _ (hHeld.only ho9 (by omega)) (fun hHeld => ?_)
          clear hKc Kc
          try simp only [Act.put, List.setIfInBounds_toArray, List.set_cons_zero, List.set_cons_succ]
          refine wpAnyH_ready (rs := [12]) (by kernel_rfl) (by simp) (AllReadyH.cons (o := ⟨none, _, _, _, _, _⟩) rfl (fun Kc hKc => ?_) AllReadyH.nil)
          rw [if_pos (by rfl)]
          refine step_store_whole 33 _ _ rfl g10 _ (pkL tk2.out Ao7 co7 Ab7 cb7) rfl rfl F10.out info_pk rfl (by simp [Value.oneCell']) ?_; intro v10 hb10 ho10; have F10 := Go.Lib.hid hb10; clear hb10; have zv10 := Nat.le_of_eq ho10.size; have zu10 := Nat.le_of_eq ho10.size.symm
          have F9 := Go.Lib.hid (F9.out.only ho10 (by omega))
          have HQ := Go.Lib.hid (HQ.out.only ho10 HN10.out); have HK := Go.Lib.hid (HK.out.only ho10 HN10.out)
          have BL := Go.Lib.hid (BL.out.trans (ho10.below (by omega)))
          refine hKc.out _ _ (hHeld.only ho10 (by omega)) (fun hHeld => ?_)
          clear hKc Kc
          try simp only [Act.put, List.setIfInBounds_toArray, List.set_cons_zero, List.set_cons_succ]
          refine wpAnyH_take (i := 13) (oi := ⟨some 8, _, _, _, _, _⟩) (v := ?_) rfl (by kernel_rfl) (by kernel_rfl) (by kernel_rfl) (fun _ _ _ h => h) (Or.inl ⟨by rfl, ?_⟩) (by assumption) ?_
          rotate_left
          · intro w hSw; (try dsimp only at hSw); go_simp; (try with_reducible rfl)
          try simp only [Act.put, List.setIfInBounds_toArray, List.set_cons_zero, List.set_cons_succ]
          refine wpAnyH_take (i := 14) (oi := ⟨some 9, _, _, _, _, _⟩) (v := ?_) rfl (by kernel_rfl) (by kernel_rfl) (by kernel_rfl) (fun _ _ _ h => h) (Or.inl ⟨by rfl, ?_⟩) (by assumption) ?_
          rotate_left
          · intro w hSw; (try dsimp only at hSw); go_simp; (try with_reducible rfl)
          try simp only [Act.put, List.setIfInBounds_toArray, List.set_cons_zero, List.set_cons_succ]
          refine wpAnyH_done (by kernel_rfl) ?_ _
          go_wp2_with fail
          go_meet
          exact ⟨g9, g10, A7, c7, Ao7, co7, Ab7, cb7, _, rfl, rfl, rfl, rfl, ⟨BL.out, F9.out, F10.out, HQ.out, HK.out, by omega, by omega, by omega, HN9.out, HN10.out, fun b hb => hb.elim (fun k => k.elim .inl (fun k => .inr (by omega))) (fun k => .inr (by omega))⟩⟩
      ·
        rw [if_pos (by rfl)]
        refine step_alloc 33 rfl (pkL pk0 none 0 none 0) info_zpk ?_; intro g10 w10 e10 hb10 y10 z10
        have HP := Go.Lib.hid (HP.out.at y10)
        have F9 := Go.Lib.hid (F9.out.keep y10 F9.out.lt)
        have BL := Go.Lib.hid (BL.out.trans (y10.mono (by omega)))
        have F10 := Go.Lib.hid hb10; clear hb10
        refine hKc.out _ _ (hHeld.keep y10 hHeld.lt) (fun hHeld => ?_)
        clear hKc Kc
        try simp only [Act.put, List.setIfInBounds_toArray, List.set_cons_zero, List.set_cons_succ]
        refine wpAnyH_ready (rs := [1]) (by kernel_rfl) (by simp) (AllReadyH.cons (o := ⟨some 25, _, _, _, _, _⟩) rfl (fun Kc hKc => ?_) AllReadyH.nil)
        rw [if_pos (by rfl)]
        refine step_make8 _ 5 _ _ rfl rfl rfl Try.underlying23 info_byte ?_; intro gB wB eB hbB yB zB
        have HP := Go.Lib.hid (HP.out.at yB)
        have F9 := Go.Lib.hid (F9.out.keep yB F9.out.lt)
        have F10 := Go.Lib.hid (F10.out.keep yB F10.out.lt)
        have BL := Go.Lib.hid (BL.out.trans (yB.mono (by omega)))
        have FB := Go.Lib.hid hbB; clear hbB
        have HP : Hid (PoAt wB (fun b => growV U1 W2 w4 b ∨ b = gB) p1 A4 c4) := Go.Lib.hid (HP.out.more (fun b h => .inl h) (fun b h => h.elim (fun k => by have := HP.out.lt b k; omega) (fun k => by have := FB.out.lt; omega)))
        have HX : Hid (PkAt wB (fun b => growV U1 W2 w4 b ∨ b = gB) x2 none 0 (some ⟨gB, 0, none⟩) 8) := Go.Lib.hid (pk_eight _ gB FB.out (.inr rfl) HP.out.lt)
        refine hKc.out _ _ (hHeld.keep yB hHeld.lt) (fun hHeld => ?_)
        clear hKc Kc
        try simp only [Act.put, List.setIfInBounds_toArray, List.set_cons_zero, List.set_cons_succ]
        refine wpAnyH_take (i := 2) (oi := ⟨some 26, _, _, _, _, _⟩) (v := ?_) rfl (by kernel_rfl) (by kernel_rfl) (by kernel_rfl) (fun _ _ _ h => h) (Or.inl ⟨by rfl, ?_⟩) (by assumption) ?_
        rotate_left
        · intro w hSw; (try dsimp only at hSw); go_simp; (try with_reducible rfl)
        try simp only [Act.put, List.setIfInBounds_toArray, List.set_cons_zero, List.set_cons_succ]
        refine wpAnyH_ready (rs := [3]) (by kernel_rfl) (by simp) (AllReadyH.cons (o := ⟨some 27, _, _, _, _, _⟩) rfl (fun Kc hKc => ?_) AllReadyH.nil)
        go_simp
        go_at_call 8; refine (ctake p1 A4 c4 x2 none 0 (some ⟨gB, 0, none⟩) 8 _ _ tk2 take_x2 HP.out HX.out right_p1 (by decide) (by decide)).mono ?_; rintro e7 w7 ⟨A7, c7, Ao7, co7, Ab7, cb7, rfl, hq, hk, y7⟩; have HQ := Go.Lib.hid hq; have HK := Go.Lib.hid hk; clear hq hk; have z7 := y7.size; dsimp only
        have F9 := Go.Lib.hid (F9.out.keep y7 F9.out.lt)
        have F10 := Go.Lib.hid (F10.out.keep y7 F10.out.lt)
        have BL := Go.Lib.hid (BL.out.trans (y7.mono (by omega)))
        refine hKc.out _ _ (hHeld.keep y7 hHeld.lt) (fun hHeld => ?_)
        clear hKc Kc
        try simp only [Act.put, List.setIfInBounds_toArray, List.set_cons_zero, List.set_cons_succ]
        refine wpAnyH_take (i := 4) (oi := ⟨some 23, _, _, _, _, _⟩) (v := ?_) rfl (by kernel_rfl) (by kernel_rfl) (by kernel_rfl) (fun _ _ _ h => h) (Or.inl ⟨by rfl, ?_⟩) (by assumption) ?_
        rotate_left
        · intro w hSw; (try dsimp only at hSw); go_simp; (try with_reducible rfl)
        try simp only [Act.put, List.setIfInBounds_toArray, List.set_cons_zero, List.set_cons_succ]
        refine wpAnyH_take (i := 5) (oi := ⟨some 28, _, _, _, _, _⟩) (v := ?_) rfl (by kernel_rfl) (by kernel_rfl) (by kernel_rfl) (fun _ _ _ h => h) (Or.inl ⟨by rfl, ?_⟩) (by assumption) ?_
        rotate_left
        · intro w hSw; (try dsimp only at hSw); go_simp; (try with_reducible rfl)
        try simp only [Act.put, List.setIfInBounds_toArray, List.set_cons_zero, List.set_cons_succ]
        refine wpAnyH_take (i := 6) (oi := ⟨some 29, _, _, _, _, _⟩) (v := ?_) rfl (by kernel_rfl) (by kernel_rfl) (by kernel_rfl) (fun _ _ _ h => h) (Or.inl ⟨by rfl, ?_⟩) (by assumption) ?_
        rotate_left
        · intro w hSw; (try dsimp only at hSw); go_simp; (try with_reducible rfl)
        try simp only [Act.put, List.setIfInBounds_toArray, List.set_cons_zero, List.set_cons_succ]
        refine wpAnyH_take (i := 7) (oi := ⟨some 30, _, _, _, _, _⟩) (v := ?_) rfl (by kernel_rfl) (by kernel_rfl) (by kernel_rfl) (fun _ _ _ h => h) (Or.inl ⟨by rfl, ?_⟩) (by assumption) ?_
        rotate_left
        · intro w hSw; (try dsimp only at hSw); go_simp; (try with_reducible rfl)
        try simp only [Act.put, List.setIfInBounds_toArray, List.set_cons_zero, List.set_cons_succ]
        refine wpAnyH_take (i := 8) (oi := ⟨some 31, _, _, _, _, _⟩) (v := ?_) rfl (by kernel_rfl) (by kernel_rfl) (by kernel_rfl) (fun _ _ _ h => h) (Or.inl ⟨by rfl, ?_⟩) (by assumption) ?_
        rotate_left
        · intro w hSw; (try dsimp only at hSw); go_simp; (try with_reducible rfl)
        try simp only [Act.put, List.setIfInBounds_toArray, List.set_cons_zero, List.set_cons_succ]
        refine wpAnyH_ready (rs := [11]) (by kernel_rfl) (by simp) (AllReadyH.cons (o := ⟨none, _, _, _, _, _⟩) rfl (fun Kc hKc => ?_) AllReadyH.nil)
        have HN9 : Hid (¬ growV (fun b => growV U1 W2 w4 b ∨ b = gB) wB w7 g9) := Go.Lib.hid (fun h => h.elim (fun k => k.elim (fun k => by have := HUlt.out _ k; omega) (fun k => by omega)) (fun k => by omega))
        have HN10 : Hid (¬ growV (fun b => growV U1 W2 w4 b ∨ b = gB) wB w7 g10) := Go.Lib.hid (fun h => h.elim (fun k => k.elim (fun k => by have := HUlt.out _ k; omega) (fun k => by omega)) (fun k => by omega))
        rw [if_pos (by rfl)]
        refine step_store_whole 27 _ _ rfl g9 _ (poL tk2.pool A7 c7) rfl rfl F9.out info_po rfl (by simp [Value.oneCell']) ?_; intro v9 hb9 ho9; have F9 := Go.Lib.hid hb9; clear hb9; have zv9 := Nat.le_of_eq ho9.size; have zu9 := Nat.le_of_eq ho9.size.symm
        have F10 := Go.Lib.hid (F10.out.only ho9 (by omega))
        have HQ := Go.Lib.hid (HQ.out.only ho9 HN9.out); have HK := Go.Lib.hid (HK.out.only ho9 HN9.out)
        have BL := Go.Lib.hid (BL.out.trans (ho9.below (by omega)))
        refine hKc.out _ _ (hHeld.only ho9 (by omega)) (fun hHeld => ?_)
        clear hKc Kc
        try simp only [Act.put, List.setIfInBounds_toArray, List.set_cons_zero, List.set_cons_succ]
        refine wpAnyH_ready (rs := [12]) (by kernel_rfl) (by simp) (AllReadyH.cons (o := ⟨none, _, _, _, _, _⟩) rfl (fun Kc hKc => ?_) AllReadyH.nil)
        rw [if_pos (by rfl)]
        refine step_store_whole 33 _ _ rfl g10 _ (pkL tk2.out Ao7 co7 Ab7 cb7) rfl rfl F10.out info_pk rfl (by simp [Value.oneCell']) ?_; intro v10 hb10 ho10; have F10 := Go.Lib.hid hb10; clear hb10; have zv10 := Nat.le_of_eq ho10.size; have zu10 := Nat.le_of_eq ho10.size.symm
        have F9 := Go.Lib.hid (F9.out.only ho10 (by omega))
        have HQ := Go.Lib.hid (HQ.out.only ho10 HN10.out); have HK := Go.Lib.hid (HK.out.only ho10 HN10.out)
        have BL := Go.Lib.hid (BL.out.trans (ho10.below (by omega)))
        refine hKc.out _ _ (hHeld.only ho10 (by omega)) (fun hHeld => ?_)
        clear hKc Kc
        try simp only [Act.put, List.setIfInBounds_toArray, List.set_cons_zero, List.set_cons_succ]
        refine wpAnyH_take (i := 13) (oi := ⟨some 8, _, _, _, _, _⟩) (v := ?_) rfl (by kernel_rfl) (by kernel_rfl) (by kernel_rfl) (fun _ _ _ h => h) (Or.inl ⟨by rfl, ?_⟩) (by assumption) ?_
        rotate_left
        · intro w hSw; (try dsimp only at hSw); go_simp; (try with_reducible rfl)
        try simp only [Act.put, List.setIfInBounds_toArray, List.set_cons_zero, List.set_cons_succ]
        refine wpAnyH_take (i := 14) (oi := ⟨some 9, _, _, _, _, _⟩) (v := ?_) rfl (by kernel_rfl) (by kernel_rfl) (by kernel_rfl) (fun _ _ _ h => h) (Or.inl ⟨by rfl, ?_⟩) (by assumption) ?_
        rotate_left
        · intro w hSw; (try dsimp only at hSw); go_simp; (try with_reducible rfl)
        try simp only [Act.put, List.setIfInBounds_toArray, List.set_cons_zero, List.set_cons_succ]
        refine wpAnyH_done (by kernel_rfl) ?_ _
        go_wp2_with fail
        go_meet
        exact ⟨g9, g10, A7, c7, Ao7, co7, Ab7, cb7, _, rfl, rfl, rfl, rfl, ⟨BL.out, F9.out, F10.out, HQ.out, HK.out, by omega, by omega, by omega, HN9.out, HN10.out, fun b hb => hb.elim (fun k => k.elim .inl (fun k => .inr (by omega))) (fun k => .inr (by omega))⟩⟩
    ·
      rw [if_pos (by rfl)]
      refine step_alloc 33 rfl (pkL pk0 none 0 none 0) info_zpk ?_; intro g10 w10 e10 hb10 y10 z10
      have HP := Go.Lib.hid (HP.out.at y10)
      have BL := Go.Lib.hid (BL.out.trans (y10.mono (by omega)))
      have F10 := Go.Lib.hid hb10; clear hb10
      refine hKc.out _ _ (hHeld.keep y10 hHeld.lt) (fun hHeld => ?_)
      clear hKc Kc
      try simp only [Act.put, List.setIfInBounds_toArray, List.set_cons_zero, List.set_cons_succ]
      refine wpAnyH_ready (rs := [1, 9]) (by kernel_rfl) (by simp) (AllReadyH.cons (o := ⟨some 25, _, _, _, _, _⟩) rfl (fun Kc hKc => ?_) (AllReadyH.cons (o := ⟨some 6, _, _, _, _, _⟩) rfl (fun Kc hKc => ?_) AllReadyH.nil))
      ·
        rw [if_pos (by rfl)]
        refine step_make8 _ 5 _ _ rfl rfl rfl Try.underlying23 info_byte ?_; intro gB wB eB hbB yB zB
        have HP := Go.Lib.hid (HP.out.at yB)
        have F10 := Go.Lib.hid (F10.out.keep yB F10.out.lt)
        have BL := Go.Lib.hid (BL.out.trans (yB.mono (by omega)))
        have FB := Go.Lib.hid hbB; clear hbB
        have HP : Hid (PoAt wB (fun b => growV U1 W2 w4 b ∨ b = gB) p1 A4 c4) := Go.Lib.hid (HP.out.more (fun b h => .inl h) (fun b h => h.elim (fun k => by have := HP.out.lt b k; omega) (fun k => by have := FB.out.lt; omega)))
        have HX : Hid (PkAt wB (fun b => growV U1 W2 w4 b ∨ b = gB) x2 none 0 (some ⟨gB, 0, none⟩) 8) := Go.Lib.hid (pk_eight _ gB FB.out (.inr rfl) HP.out.lt)
        refine hKc.out _ _ (hHeld.keep yB hHeld.lt) (fun hHeld => ?_)
        clear hKc Kc
        try simp only [Act.put, List.setIfInBounds_toArray, List.set_cons_zero, List.set_cons_succ]
        refine wpAnyH_take (i := 2) (oi := ⟨some 26, _, _, _, _, _⟩) (v := ?_) rfl (by kernel_rfl) (by kernel_rfl) (by kernel_rfl) (fun _ _ _ h => h) (Or.inl ⟨by rfl, ?_⟩) (by assumption) ?_
        rotate_left
        · intro w hSw; (try dsimp only at hSw); go_simp; (try with_reducible rfl)
        try simp only [Act.put, List.setIfInBounds_toArray, List.set_cons_zero, List.set_cons_succ]
        refine wpAnyH_ready (rs := [3, 9]) (by kernel_rfl) (by simp) (AllReadyH.cons (o := ⟨some 27, _, _, _, _, _⟩) rfl (fun Kc hKc => ?_) (AllReadyH.cons (o := ⟨some 6, _, _, _, _, _⟩) rfl (fun Kc hKc => ?_) AllReadyH.nil))
        ·
          go_simp
          go_at_call 8; refine (ctake p1 A4 c4 x2 none 0 (some ⟨gB, 0, none⟩) 8 _ _ tk2 take_x2 HP.out HX.out right_p1 (by decide) (by decide)).mono ?_; rintro e7 w7 ⟨A7, c7, Ao7, co7, Ab7, cb7, rfl, hq, hk, y7⟩; have HQ := Go.Lib.hid hq; have HK := Go.Lib.hid hk; clear hq hk; have z7 := y7.size; dsimp only
          have F10 := Go.Lib.hid (F10.out.keep y7 F10.out.lt)
          have BL := Go.Lib.hid (BL.out.trans (y7.mono (by omega)))
          refine hKc.out _ _ (hHeld.keep y7 hHeld.lt) (fun hHeld => ?_)
          clear hKc Kc
          try simp only [Act.put, List.setIfInBounds_toArray, List.set_cons_zero, List.set_cons_succ]
          refine wpAnyH_take (i := 4) (oi := ⟨some 23, _, _, _, _, _⟩) (v := ?_) rfl (by kernel_rfl) (by kernel_rfl) (by kernel_rfl) (fun _ _ _ h => h) (Or.inl ⟨by rfl, ?_⟩) (by assumption) ?_
          rotate_left
          · intro w hSw; (try dsimp only at hSw); go_simp; (try with_reducible rfl)
          try simp only [Act.put, List.setIfInBounds_toArray, List.set_cons_zero, List.set_cons_succ]
          refine wpAnyH_take (i := 5) (oi := ⟨some 28, _, _, _, _, _⟩) (v := ?_) rfl (by kernel_rfl) (by kernel_rfl) (by kernel_rfl) (fun _ _ _ h => h) (Or.inl ⟨by rfl, ?_⟩) (by assumption) ?_
          rotate_left
          · intro w hSw; (try dsimp only at hSw); go_simp; (try with_reducible rfl)
          try simp only [Act.put, List.setIfInBounds_toArray, List.set_cons_zero, List.set_cons_succ]
          refine wpAnyH_take (i := 6) (oi := ⟨some 29, _, _, _, _, _⟩) (v := ?_) rfl (by kernel_rfl) (by kernel_rfl) (by kernel_rfl) (fun _ _ _ h => h) (Or.inl ⟨by rfl, ?_⟩) (by assumption) ?_
          rotate_left
          · intro w hSw; (try dsimp only at hSw); go_simp; (try with_reducible rfl)
          try simp only [Act.put, List.setIfInBounds_toArray, List.set_cons_zero, List.set_cons_succ]
          refine wpAnyH_take (i := 7) (oi := ⟨some 30, _, _, _, _, _⟩) (v := ?_) rfl (by kernel_rfl) (by kernel_rfl) (by kernel_rfl) (fun _ _ _ h => h) (Or.inl ⟨by rfl, ?_⟩) (by assumption) ?_
          rotate_left
          · intro w hSw; (try dsimp only at hSw); go_simp; (try with_reducible rfl)
          try simp only [Act.put, List.setIfInBounds_toArray, List.set_cons_zero, List.set_cons_succ]
          refine wpAnyH_take (i := 8) (oi := ⟨some 31, _, _, _, _, _⟩) (v := ?_) rfl (by kernel_rfl) (by kernel_rfl) (by kernel_rfl) (fun _ _ _ h => h) (Or.inl ⟨by rfl, ?_⟩) (by assumption) ?_
          rotate_left
          · intro w hSw; (try dsimp only at hSw); go_simp; (try with_reducible rfl)
          try simp only [Act.put, List.setIfInBounds_toArray, List.set_cons_zero, List.set_cons_succ]
          refine wpAnyH_ready (rs := [9]) (by kernel_rfl) (by simp) (AllReadyH.cons (o := ⟨some 6, _, _, _, _, _⟩) rfl (fun Kc hKc => ?_) AllReadyH.nil)
          rw [if_pos (by rfl)]
          refine step_alloc 27 rfl (poL po0 none 0) info_zpo ?_; intro g9 w9 e9 hb9 y9 z9
          have F10 := Go.Lib.hid (F10.out.keep y9 F10.out.lt)
          have HQ := Go.Lib.hid (HQ.out.at y9)
          have HK := Go.Lib.hid (HK.out.at y9)
          have BL := Go.Lib.hid (BL.out.trans (y9.mono (by omega)))
          have F9 := Go.Lib.hid hb9; clear hb9
          refine hKc.out _ _ (hHeld.keep y9 hHeld.lt) (fun hHeld => ?_)
          clear hKc Kc
          try simp only [Act.put, List.setIfInBounds_toArray, List.set_cons_zero, List.set_cons_succ]
          refine wpAnyH_ready (rs := [11]) (by kernel_rfl) (by simp) (AllReadyH.cons (o := ⟨none, _, _, _, _, _⟩) rfl (fun Kc hKc => ?_) AllReadyH.nil)
          have HN9 : Hid (¬ growV (fun b => growV U1 W2 w4 b ∨ b = gB) wB w7 g9) := Go.Lib.hid (fun h => h.elim (fun k => k.elim (fun k => by have := HUlt.out _ k; omega) (fun k => by omega)) (fun k => by omega))
          have HN10 : Hid (¬ growV (fun b => growV U1 W2 w4 b ∨ b = gB) wB w7 g10) := Go.Lib.hid (fun h => h.elim (fun k => k.elim (fun k => by have := HUlt.out _ k; omega) (fun k => by omega)) (fun k => by omega))
          rw [if_pos (by rfl)]
          refine step_store_whole 27 _ _ rfl g9 _ (poL tk2.pool A7 c7) rfl rfl F9.out info_po rfl (by simp [Value.oneCell']) ?_; intro v9 hb9 ho9; have F9 := Go.Lib.hid hb9; clear hb9; have zv9 := Nat.le_of_eq ho9.size; have zu9 := Nat.le_of_eq ho9.size.symm
          have F10 := Go.Lib.hid (F10.out.only ho9 (by omega))
          have HQ := Go.Lib.hid (HQ.out.only ho9 HN9.out); have HK := Go.Lib.hid (HK.out.only ho9 HN9.out)
          have BL := Go.Lib.hid (BL.out.trans (ho9.below (by omega)))
          refine hKc.out _ _ (hHeld.only ho9 (by omega)) (fun hHeld => ?_)
          clear hKc Kc
          try simp only [Act.put, List.setIfInBounds_toArray, List.set_cons_zero, List.set_cons_succ]
          refine wpAnyH_ready (rs := [12]) (by kernel_rfl) (by simp) (AllReadyH.cons (o := ⟨none, _, _, _, _, _⟩) rfl (fun Kc hKc => ?_) AllReadyH.nil)
          rw [if_pos (by rfl)]
          refine step_store_whole 33 _ _ rfl g10 _ (pkL tk2.out Ao7 co7 Ab7 cb7) rfl rfl F10.out info_pk rfl (by simp [Value.oneCell']) ?_; intro v10 hb10 ho10; have F10 := Go.Lib.hid hb10; clear hb10; have zv10 := Nat.le_of_eq ho10.size; have zu10 := Nat.le_of_eq ho10.size.symm
          have F9 := Go.Lib.hid (F9.out.only ho10 (by omega))
          have HQ := Go.Lib.hid (HQ.out.only ho10 HN10.out); have HK := Go.Lib.hid (HK.out.only ho10 HN10.out)
          have BL := Go.Lib.hid (BL.out.trans (ho10.below (by omega)))
          refine hKc.out _ _ (hHeld.only ho10 (by omega)) (fun hHeld => ?_)
          clear hKc Kc
          try simp only [Act.put, List.setIfInBounds_toArray, List.set_cons_zero, List.set_cons_succ]
          refine wpAnyH_take (i := 13) (oi := ⟨some 8, _, _, _, _, _⟩) (v := ?_) rfl (by kernel_rfl) (by kernel_rfl) (by kernel_rfl) (fun _ _ _ h => h) (Or.inl ⟨by rfl, ?_⟩) (by assumption) ?_
          rotate_left
          · intro w hSw; (try dsimp only at hSw); go_simp; (try with_reducible rfl)
          try simp only [Act.put, List.setIfInBounds_toArray, List.set_cons_zero, List.set_cons_succ]
          refine wpAnyH_take (i := 14) (oi := ⟨some 9, _, _, _, _, _⟩) (v := ?_) rfl (by kernel_rfl) (by kernel_rfl) (by kernel_rfl) (fun _ _ _ h => h) (Or.inl ⟨by rfl, ?_⟩) (by assumption) ?_
          rotate_left
          · intro w hSw; (try dsimp only at hSw); go_simp; (try with_reducible rfl)
          try simp only [Act.put, List.setIfInBounds_toArray, List.set_cons_zero, List.set_cons_succ]
          refine wpAnyH_done (by kernel_rfl) ?_ _
          go_wp2_with fail
          go_meet
          exact ⟨g9, g10, A7, c7, Ao7, co7, Ab7, cb7, _, rfl, rfl, rfl, rfl, ⟨BL.out, F9.out, F10.out, HQ.out, HK.out, by omega, by omega, by omega, HN9.out, HN10.out, fun b hb => hb.elim (fun k => k.elim .inl (fun k => .inr (by omega))) (fun k => .inr (by omega))⟩⟩
        ·
          rw [if_pos (by rfl)]
          refine step_alloc 27 rfl (poL po0 none 0) info_zpo ?_; intro g9 w9 e9 hb9 y9 z9
          have HP := Go.Lib.hid (HP.out.at y9)
          have F10 := Go.Lib.hid (F10.out.keep y9 F10.out.lt)
          have FB := Go.Lib.hid (FB.out.keep y9 FB.out.lt)
          have HX := Go.Lib.hid (HX.out.at y9)
          have BL := Go.Lib.hid (BL.out.trans (y9.mono (by omega)))
          have F9 := Go.Lib.hid hb9; clear hb9
          refine hKc.out _ _ (hHeld.keep y9 hHeld.lt) (fun hHeld => ?_)
          clear hKc Kc
          try simp only [Act.put, List.setIfInBounds_toArray, List.set_cons_zero, List.set_cons_succ]
          refine wpAnyH_ready (rs := [3]) (by kernel_rfl) (by simp) (AllReadyH.cons (o := ⟨some 27, _, _, _, _, _⟩) rfl (fun Kc hKc => ?_) AllReadyH.nil)
          go_simp
          go_at_call 8; refine (ctake p1 A4 c4 x2 none 0 (some ⟨gB, 0, none⟩) 8 _ _ tk2 take_x2 HP.out HX.out right_p1 (by decide) (by decide)).mono ?_; rintro e7 w7 ⟨A7, c7, Ao7, co7, Ab7, cb7, rfl, hq, hk, y7⟩; have HQ := Go.Lib.hid hq; have HK := Go.Lib.hid hk; clear hq hk; have z7 := y7.size; dsimp only
          have F10 := Go.Lib.hid (F10.out.keep y7 F10.out.lt)
          have F9 := Go.Lib.hid (F9.out.keep y7 F9.out.lt)
          have BL := Go.Lib.hid (BL.out.trans (y7.mono (by omega)))
          refine hKc.out _ _ (hHeld.keep y7 hHeld.lt) (fun hHeld => ?_)
          clear hKc Kc
          try simp only [Act.put, List.setIfInBounds_toArray, List.set_cons_zero, List.set_cons_succ]
          refine wpAnyH_take (i := 4) (oi := ⟨some 23, _, _, _, _, _⟩) (v := ?_) rfl (by kernel_rfl) (by kernel_rfl) (by kernel_rfl) (fun _ _ _ h => h) (Or.inl ⟨by rfl, ?_⟩) (by assumption) ?_
          rotate_left
          · intro w hSw; (try dsimp only at hSw); go_simp; (try with_reducible rfl)
          try simp only [Act.put, List.setIfInBounds_toArray, List.set_cons_zero, List.set_cons_succ]
          refine wpAnyH_take (i := 5) (oi := ⟨some 28, _, _, _, _, _⟩) (v := ?_) rfl (by kernel_rfl) (by kernel_rfl) (by kernel_rfl) (fun _ _ _ h => h) (Or.inl ⟨by rfl, ?_⟩) (by assumption) ?_
          rotate_left
          · intro w hSw; (try dsimp only at hSw); go_simp; (try with_reducible rfl)
          try simp only [Act.put, List.setIfInBounds_toArray, List.set_cons_zero, List.set_cons_succ]
          refine wpAnyH_take (i := 6) (oi := ⟨some 29, _, _, _, _, _⟩) (v := ?_) rfl (by kernel_rfl) (by kernel_rfl) (by kernel_rfl) (fun _ _ _ h => h) (Or.inl ⟨by rfl, ?_⟩) (by assumption) ?_
          rotate_left
          · intro w hSw; (try dsimp only at hSw); go_simp; (try with_reducible rfl)
          try simp only [Act.put, List.setIfInBounds_toArray, List.set_cons_zero, List.set_cons_succ]
          refine wpAnyH_take (i := 7) (oi := ⟨some 30, _, _, _, _, _⟩) (v := ?_) rfl (by kernel_rfl) (by kernel_rfl) (by kernel_rfl) (fun _ _ _ h => h) (Or.inl ⟨by rfl, ?_⟩) (by assumption) ?_
          rotate_left
          · intro w hSw; (try dsimp only at hSw); go_simp; (try with_reducible rfl)
          try simp only [Act.put, List.setIfInBounds_toArray, List.set_cons_zero, List.set_cons_succ]
          refine wpAnyH_take (i := 8) (oi := ⟨some 31, _, _, _, _, _⟩) (v := ?_) rfl (by kernel_rfl) (by kernel_rfl) (by kernel_rfl) (fun _ _ _ h => h) (Or.inl ⟨by rfl, ?_⟩) (by assumption) ?_
          rotate_left
          · intro w hSw; (try dsimp only at hSw); go_simp; (try with_reducible rfl)
          try simp only [Act.put, List.setIfInBounds_toArray, List.set_cons_zero, List.set_cons_succ]
          refine wpAnyH_ready (rs := [11]) (by kernel_rfl) (by simp) (AllReadyH.cons (o := ⟨none, _, _, _, _, _⟩) rfl (fun Kc hKc => ?_) AllReadyH.nil)
          have HN9 : Hid (¬ growV (fun b => growV U1 W2 w4 b ∨ b = gB) w9 w7 g9) := Go.Lib.hid (fun h => h.elim (fun k => k.elim (fun k => by have := HUlt.out _ k; omega) (fun k => by omega)) (fun k => by omega))
          have HN10 : Hid (¬ growV (fun b => growV U1 W2 w4 b ∨ b = gB) w9 w7 g10) := Go.Lib.hid (fun h => h.elim (fun k => k.elim (fun k => by have := HUlt.out _ k; omega) (fun k => by omega)) (fun k => by omega))
          rw [if_pos (by rfl)]
          refine step_store_whole 27 _ _ rfl g9 _ (poL tk2.pool A7 c7) rfl rfl F9.out info_po rfl (by simp [Value.oneCell']) ?_; intro v9 hb9 ho9; have F9 := Go.Lib.hid hb9; clear hb9; have zv9 := Nat.le_of_eq ho9.size; have zu9 := Nat.le_of_eq ho9.size.symm
          have F10 := Go.Lib.hid (F10.out.only ho9 (by omega))
          have HQ := Go.Lib.hid (HQ.out.only ho9 HN9.out); have HK := Go.Lib.hid (HK.out.only ho9 HN9.out)
          have BL := Go.Lib.hid (BL.out.trans (ho9.below (by omega)))
          refine hKc.out _ _ (hHeld.only ho9 (by omega)) (fun hHeld => ?_)
          clear hKc Kc
          try simp only [Act.put, List.setIfInBounds_toArray, List.set_cons_zero, List.set_cons_succ]
          refine wpAnyH_ready (rs := [12]) (by kernel_rfl) (by simp) (AllReadyH.cons (o := ⟨none, _, _, _, _, _⟩) rfl (fun Kc hKc => ?_) AllReadyH.nil)
          rw [if_pos (by rfl)]
          refine step_store_whole 33 _ _ rfl g10 _ (pkL tk2.out Ao7 co7 Ab7 cb7) rfl rfl F10.out info_pk rfl (by simp [Value.oneCell']) ?_; intro v10 hb10 ho10; have F10 := Go.Lib.hid hb10; clear hb10; have zv10 := Nat.le_of_eq ho10.size; have zu10 := Nat.le_of_eq ho10.size.symm
          have F9 := Go.Lib.hid (F9.out.only ho10 (by omega))
          have HQ := Go.Lib.hid (HQ.out.only ho10 HN10.out); have HK := Go.Lib.hid (HK.out.only ho10 HN10.out)
          have BL := Go.Lib.hid (BL.out.trans (ho10.below (by omega)))
          refine hKc.out _ _ (hHeld.only ho10 (by omega)) (fun hHeld => ?_)
          clear hKc Kc
          try simp only [Act.put, List.setIfInBounds_toArray, List.set_cons_zero, List.set_cons_succ]
          refine wpAnyH_take (i := 13) (oi := ⟨some 8, _, _, _, _, _⟩) (v := ?_) rfl (by kernel_rfl) (by kernel_rfl) (by kernel_rfl) (fun _ _ _ h => h) (Or.inl ⟨by rfl, ?_⟩) (by assumption) ?_
          rotate_left
          · intro w hSw; (try dsimp only at hSw); go_simp; (try with_reducible rfl)
          try simp only [Act.put, List.setIfInBounds_toArray, List.set_cons_zero, List.set_cons_succ]
          refine wpAnyH_take (i := 14) (oi := ⟨some 9, _, _, _, _, _⟩) (v := ?_) rfl (by kernel_rfl) (by kernel_rfl) (by kernel_rfl) (fun _ _ _ h => h) (Or.inl ⟨by rfl, ?_⟩) (by assumption) ?_
          rotate_left
          · intro w hSw; (try dsimp only at hSw); go_simp; (try with_reducible rfl)
          try simp only [Act.put, List.setIfInBounds_toArray, List.set_cons_zero, List.set_cons_succ]
          refine wpAnyH_done (by kernel_rfl) ?_ _
          go_wp2_with fail
          go_meet
          exact ⟨g9, g10, A7, c7, Ao7, co7, Ab7, cb7, _, rfl, rfl, rfl, rfl, ⟨BL.out, F9.out, F10.out, HQ.out, HK.out, by omega, by omega, by omega, HN9.out, HN10.out, fun b hb => hb.elim (fun k => k.elim .inl (fun k => .inr (by omega))) (fun k => .inr (by omega))⟩⟩
      ·
        rw [if_pos (by rfl)]
        refine step_alloc 27 rfl (poL po0 none 0) info_zpo ?_; intro g9 w9 e9 hb9 y9 z9
        have HP := Go.Lib.hid (HP.out.at y9)
        have F10 := Go.Lib.hid (F10.out.keep y9 F10.out.lt)
        have BL := Go.Lib.hid (BL.out.trans (y9.mono (by omega)))
        have F9 := Go.Lib.hid hb9; clear hb9
        refine hKc.out _ _ (hHeld.keep y9 hHeld.lt) (fun hHeld => ?_)
        clear hKc Kc
        try simp only [Act.put, List.setIfInBounds_toArray, List.set_cons_zero, List.set_cons_succ]
        refine wpAnyH_ready (rs := [1]) (by kernel_rfl) (by simp) (AllReadyH.cons (o := ⟨some 25, _, _, _, _, _⟩) rfl (fun Kc hKc => ?_) AllReadyH.nil)
        rw [if_pos (by rfl)]
        refine step_make8 _ 5 _ _ rfl rfl rfl Try.underlying23 info_byte ?_; intro gB wB eB hbB yB zB
        have HP := Go.Lib.hid (HP.out.at yB)
        have F10 := Go.Lib.hid (F10.out.keep yB F10.out.lt)
        have F9 := Go.Lib.hid (F9.out.keep yB F9.out.lt)
        have BL := Go.Lib.hid (BL.out.trans (yB.mono (by omega)))
        have FB := Go.Lib.hid hbB; clear hbB
        have HP : Hid (PoAt wB (fun b => growV U1 W2 w4 b ∨ b = gB) p1 A4 c4) := Go.Lib.hid (HP.out.more (fun b h => .inl h) (fun b h => h.elim (fun k => by have := HP.out.lt b k; omega) (fun k => by have := FB.out.lt; omega)))
        have HX : Hid (PkAt wB (fun b => growV U1 W2 w4 b ∨ b = gB) x2 none 0 (some ⟨gB, 0, none⟩) 8) := Go.Lib.hid (pk_eight _ gB FB.out (.inr rfl) HP.out.lt)
        refine hKc.out _ _ (hHeld.keep yB hHeld.lt) (fun hHeld => ?_)
        clear hKc Kc
        try simp only [Act.put, List.setIfInBounds_toArray, List.set_cons_zero, List.set_cons_succ]
        refine wpAnyH_take (i := 2) (oi := ⟨some 26, _, _, _, _, _⟩) (v := ?_) rfl (by kernel_rfl) (by kernel_rfl) (by kernel_rfl) (fun _ _ _ h => h) (Or.inl ⟨by rfl, ?_⟩) (by assumption) ?_
        rotate_left
        · intro w hSw; (try dsimp only at hSw); go_simp; (try with_reducible rfl)
        try simp only [Act.put, List.setIfInBounds_toArray, List.set_cons_zero, List.set_cons_succ]
        refine wpAnyH_ready (rs := [3]) (by kernel_rfl) (by simp) (AllReadyH.cons (o := ⟨some 27, _, _, _, _, _⟩) rfl (fun Kc hKc => ?_) AllReadyH.nil)
        go_simp
        go_at_call 8; refine (ctake p1 A4 c4 x2 none 0 (some ⟨gB, 0, none⟩) 8 _ _ tk2 take_x2 HP.out HX.out right_p1 (by decide) (by decide)).mono ?_; rintro e7 w7 ⟨A7, c7, Ao7, co7, Ab7, cb7, rfl, hq, hk, y7⟩; have HQ := Go.Lib.hid hq; have HK := Go.Lib.hid hk; clear hq hk; have z7 := y7.size; dsimp only
        have F10 := Go.Lib.hid (F10.out.keep y7 F10.out.lt)
        have F9 := Go.Lib.hid (F9.out.keep y7 F9.out.lt)
        have BL := Go.Lib.hid (BL.out.trans (y7.mono (by omega)))
        refine hKc.out _ _ (hHeld.keep y7 hHeld.lt) (fun hHeld => ?_)
        clear hKc Kc
        try simp only [Act.put, List.setIfInBounds_toArray, List.set_cons_zero, List.set_cons_succ]
        refine wpAnyH_take (i := 4) (oi := ⟨some 23, _, _, _, _, _⟩) (v := ?_) rfl (by kernel_rfl) (by kernel_rfl) (by kernel_rfl) (fun _ _ _ h => h) (Or.inl ⟨by rfl, ?_⟩) (by assumption) ?_
        rotate_left
        · intro w hSw; (try dsimp only at hSw); go_simp; (try with_reducible rfl)
        try simp only [Act.put, List.setIfInBounds_toArray, List.set_cons_zero, List.set_cons_succ]
        refine wpAnyH_take (i := 5) (oi := ⟨some 28, _, _, _, _, _⟩) (v := ?_) rfl (by kernel_rfl) (by kernel_rfl) (by kernel_rfl) (fun _ _ _ h => h) (Or.inl ⟨by rfl, ?_⟩) (by assumption) ?_
        rotate_left
        · intro w hSw; (try dsimp only at hSw); go_simp; (try with_reducible rfl)
        try simp only [Act.put, List.setIfInBounds_toArray, List.set_cons_zero, List.set_cons_succ]
        refine wpAnyH_take (i := 6) (oi := ⟨some 29, _, _, _, _, _⟩) (v := ?_) rfl (by kernel_rfl) (by kernel_rfl) (by kernel_rfl) (fun _ _ _ h => h) (Or.inl ⟨by rfl, ?_⟩) (by assumption) ?_
        rotate_left
        · intro w hSw; (try dsimp only at hSw); go_simp; (try with_reducible rfl)
        try simp only [Act.put, List.setIfInBounds_toArray, List.set_cons_zero, List.set_cons_succ]
        refine wpAnyH_take (i := 7) (oi := ⟨some 30, _, _, _, _, _⟩) (v := ?_) rfl (by kernel_rfl) (by kernel_rfl) (by kernel_rfl) (fun _ _ _ h => h) (Or.inl ⟨by rfl, ?_⟩) (by assumption) ?_
        rotate_left
        · intro w hSw; (try dsimp only at hSw); go_simp; (try with_reducible rfl)
        try simp only [Act.put, List.setIfInBounds_toArray, List.set_cons_zero, List.set_cons_succ]
        refine wpAnyH_take (i := 8) (oi := ⟨some 31, _, _, _, _, _⟩) (v := ?_) rfl (by kernel_rfl) (by kernel_rfl) (by kernel_rfl) (fun _ _ _ h => h) (Or.inl ⟨by rfl, ?_⟩) (by assumption) ?_
        rotate_left
        · intro w hSw; (try dsimp only at hSw); go_simp; (try with_reducible rfl)
        try simp only [Act.put, List.setIfInBounds_toArray, List.set_cons_zero, List.set_cons_succ]
        refine wpAnyH_ready (rs := [11]) (by kernel_rfl) (by simp) (AllReadyH.cons (o := ⟨none, _, _, _, _, _⟩) rfl (fun Kc hKc => ?_) AllReadyH.nil)
        have HN9 : Hid (¬ growV (fun b => growV U1 W2 w4 b ∨ b = gB) wB w7 g9) := Go.Lib.hid (fun h => h.elim (fun k => k.elim (fun k => by have := HUlt.out _ k; omega) (fun k => by omega)) (fun k => by omega))
        have HN10 : Hid (¬ growV (fun b => growV U1 W2 w4 b ∨ b = gB) wB w7 g10) := Go.Lib.hid (fun h => h.elim (fun k => k.elim (fun k => by have := HUlt.out _ k; omega) (fun k => by omega)) (fun k => by omega))
        rw [if_pos (by rfl)]
        refine step_store_whole 27 _ _ rfl g9 _ (poL tk2.pool A7 c7) rfl rfl F9.out info_po rfl (by simp [Value.oneCell']) ?_; intro v9 hb9 ho9; have F9 := Go.Lib.hid hb9; clear hb9; have zv9 := Nat.le_of_eq ho9.size; have zu9 := Nat.le_of_eq ho9.size.symm
        have F10 := Go.Lib.hid (F10.out.only ho9 (by omega))
        have HQ := Go.Lib.hid (HQ.out.only ho9 HN9.out); have HK := Go.Lib.hid (HK.out.only ho9 HN9.out)
        have BL := Go.Lib.hid (BL.out.trans (ho9.below (by omega)))
        refine hKc.out _ _ (hHeld.only ho9 (by omega)) (fun hHeld => ?_)
        clear hKc Kc
        try simp only [Act.put, List.setIfInBounds_toArray, List.set_cons_zero, List.set_cons_succ]
        refine wpAnyH_ready (rs := [12]) (by kernel_rfl) (by simp) (AllReadyH.cons (o := ⟨none, _, _, _, _, _⟩) rfl (fun Kc hKc => ?_) AllReadyH.nil)
        rw [if_pos (by rfl)]
        refine step_store_whole 33 _ _ rfl g10 _ (pkL tk2.out Ao7 co7 Ab7 cb7) rfl rfl F10.out info_pk rfl (by simp [Value.oneCell']) ?_; intro v10 hb10 ho10; have F10 := Go.Lib.hid hb10; clear hb10; have zv10 := Nat.le_of_eq ho10.size; have zu10 := Nat.le_of_eq ho10.size.symm
        have F9 := Go.Lib.hid (F9.out.only ho10 (by omega))
        have HQ := Go.Lib.hid (HQ.out.only ho10 HN10.out); have HK := Go.Lib.hid (HK.out.only ho10 HN10.out)
        have BL := Go.Lib.hid (BL.out.trans (ho10.below (by omega)))
        refine hKc.out _ _ (hHeld.only ho10 (by omega)) (fun hHeld => ?_)
        clear hKc Kc
        try simp only [Act.put, List.setIfInBounds_toArray, List.set_cons_zero, List.set_cons_succ]
        refine wpAnyH_take (i := 13) (oi := ⟨some 8, _, _, _, _, _⟩) (v := ?_) rfl (by kernel_rfl) (by kernel_rfl) (by kernel_rfl) (fun _ _ _ h => h) (Or.inl ⟨by rfl, ?_⟩) (by assumption) ?_
        rotate_left
        · intro w hSw; (try dsimp only at hSw); go_simp; (try with_reducible rfl)
        try simp only [Act.put, List.setIfInBounds_toArray, List.set_cons_zero, List.set_cons_succ]
        refine wpAnyH_take (i := 14) (oi := ⟨some 9, _, _, _, _, _⟩) (v := ?_) rfl (by kernel_rfl) (by kernel_rfl) (by kernel_rfl) (fun _ _ _ h => h) (Or.inl ⟨by rfl, ?_⟩) (by assumption) ?_
        rotate_left
        · intro w hSw; (try dsimp only at hSw); go_simp; (try with_reducible rfl)
        try simp only [Act.put, List.setIfInBounds_toArray, List.set_cons_zero, List.set_cons_succ]
        refine wpAnyH_done (by kernel_rfl) ?_ _
        go_wp2_with fail
        go_meet
        exact ⟨g9, g10, A7, c7, Ao7, co7, Ab7, cb7, _, rfl, rfl, rfl, rfl, ⟨BL.out, F9.out, F10.out, HQ.out, HK.out, by omega, by omega, by omega, HN9.out, HN10.out, fun b hb => hb.elim (fun k => k.elim .inl (fun k => .inr (by omega))) (fun k => .inr (by omega))⟩⟩

  case rest =>
    obtain ⟨g9, g10, A', c', Ao', co', Ab', cb', U', rfl, rfl, rfl, rfl, hT⟩ := hcut
    have d10 : wc.cell? ⟨g10, 10, none⟩ = some (.slice Ab' 9 cb') := hT.b10.cell 10 rfl
    have d5 : wc.cell? ⟨g10, 5, none⟩ = some (.int .i64 6) := hT.b10.cell 5 rfl
    have q1 : 9 ≤ cb' := hT.pk.b.len
    have q2 := hT.pk.b.cap
    have HPc := Go.Lib.hid (HP.out.at hT.bel)
    have HBc := Go.Lib.hid (HB.out.keep hT.bel hbp)
    have xc := x5.trans (hT.bel.mono x5.size)
    obtain ⟨ad, rfl, hv⟩ : ∃ ad, Ab' = some ad ∧ ∀ (j : Nat) (b : UInt8), y9.body[j]? = some b → wc.cell? (ad.add j) = some (.int .u8 (b.toNat : Int)) := by
      rcases hT.pk.b.bs with h | ⟨ad, h1, _, h2⟩
      · cases h
      · exact ⟨ad, h1, h2⟩
    have e8 : wc.cell? { block := ad.block, off := ad.off + 8 } = some (.int .u8 9) := by
      have := hv 8 9 rfl
      simpa [Addr.add] using this
    clear hv hT HP HB HUlt HUN
    go_wp2_with (first
      | (refine wpList_load_box rfl 27 _ rfl w1.heap.size rfl (poL p1 A4 c4) _ HBc.out Try.underlying27 rfl info_po ?_)
      | (go_at_call 11; refine (cheld p1 A4 c4 wc _ HPc.out (right_few right_p1)).mono ?_; rintro e w9 ⟨rfl, y9⟩; rw [held_p1]; dsimp only))
    go_ret
    exact ⟨rfl, xc.trans (y9.mono xc.size)⟩
end Go.Proofs.Ythejakbjekjhjaa
