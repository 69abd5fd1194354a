/- Lemmas, several texts in one. -/
import Derived.Deep.RegionHeld3
import Derived.Test.YtmgkkgpdnopeaaaQ04
import Derived.Test.YtmgkkgpdnopeaaaQ22
import Derived.Test.YtmgkkgpdnopeaaaQ16
import Derived.Test.YtmgkkgpdnopeaaaQ10
/- Statements of layer 9, walked: the tuple of what was put has the ports that were given. -/
namespace Go.Proofs.Ytmgkkgpdnopeaaa
open Go.ChangeShapes Go.WideShapes Go.ChangeAt Go.RowKit
set_option linter.unusedVariables false
set_option linter.unusedSimpArgs false

set_option maxRecDepth 100000 in
set_option maxHeartbeats 16000000 in
theorem tuplePorts (kA0 : AwakeC9) (kO0 : OfC9) (src dst from_ to_ x : Int) (seg : Bool) (hs : 0 ≤ src ∧ src ≤ 4294967295) (hd : 0 ≤ dst ∧ dst ≤ 4294967295) (hf : 0 ≤ from_ ∧ from_ ≤ 65535) (ht : 0 ≤ to_ ∧ to_ ≤ 65535) (hx : 0 ≤ x ∧ x ≤ 255) (w : World) :
    Calls Try.prog 6 #[.int .u32 src, .int .u32 dst, .int .u16 from_, .int .u16 to_, .bool seg, .int .u8 x] w fun e w' => e = .returned (.bool true) ∧ Below w.heap.size w w' := by
  have kA := Go.Lib.hid kA0
  obtain ⟨b0, b1, b2, b3⟩ := xor_byte src x hs.1 hs.2 hx.1 hx.2
  obtain ⟨src', hsx⟩ : ∃ s, bits .xor .u32 src x = s := ⟨_, rfl⟩
  rw [hsx] at b0 b1 b2 b3
  obtain ⟨LU, eU⟩ : ∃ L, putU src dst ⟨from_, to_, false, []⟩ = L := ⟨_, rfl⟩
  obtain ⟨LT, eT⟩ : ∃ L, putT src dst ⟨from_, to_, 0, 0, 2, 0, 0, [], []⟩ = L := ⟨_, rfl⟩
  have lU : LU.length = 8 := by rw [← eU, putU_length]; rfl
  have lT : LT.length = 20 := by rw [← eT, putT_length]; dsimp only; decide
  have kPU : Hid (∀ W, Calls Try.prog 20 #[.int .u32 src, .int .u32 dst, .agg #[.int .i64 from_, .int .i64 to_, .bool false, .slice none 0 0]] W fun e w' => ∃ g c, e = .returned (.tuple #[.slice (some ⟨g, 0, none⟩) 8 c, .int .i64 0]) ∧ Own w' W.heap.size g 8 c LU ∧ Below W.heap.size W w') := Go.Lib.hid (fun W => by
    have := uputYes src dst ⟨from_, to_, false, []⟩ none 0 W ⟨hf.1, hf.2, ht.1, ht.2, by simp⟩ hs hd ⟨Nat.le_refl _, by omega, fun _ => rfl, .inl rfl⟩ 8 rfl
    rwa [eU] at this)
  have kPT : Hid (∀ W, Calls Try.prog 21 #[.int .u32 src, .int .u32 dst, .agg #[.int .i64 from_, .int .i64 to_, .int .u32 0, .int .u32 0, .int .i64 2, .int .i64 0, .int .i64 0, .slice none 0 0, .slice none 0 0]] W fun e w' => ∃ g c, e = .returned (.tuple #[.slice (some ⟨g, 0, none⟩) 20 c, .int .i64 0]) ∧ Own w' W.heap.size g 20 c LT ∧ Below W.heap.size W w') := Go.Lib.hid (fun W => by
    have := tputYes src dst ⟨from_, to_, 0, 0, 2, 0, 0, [], []⟩ none 0 none 0 W (syn_may from_ to_ hf.1 hf.2 ht.1 ht.2) hs hd ⟨(by dsimp only; decide), (by dsimp only; decide), (by dsimp only; decide), (by dsimp only; decide), Nat.le_refl _, by omega, fun _ => rfl, .inl rfl, Nat.le_refl _, by omega, fun _ => rfl, .inl rfl⟩ 20 (by dsimp only; decide)
    rwa [eT] at this)
  obtain ⟨qu, hqu⟩ : ∃ q, ofP ⟨0, 0, false, false, 0, 0, 17, src', dst, [], LU⟩ = q := ⟨_, rfl⟩
  obtain ⟨qt, hqt⟩ : ∃ q, ofP ⟨0, 0, false, false, 0, 0, 6, src', dst, [], LT⟩ = q := ⟨_, rfl⟩
  have EU1 := Go.Lib.hid (of_own kO0 ⟨0, 0, false, false, 0, 0, 17, src, dst, [], LU⟩ (⟨17, src, from_, dst, to_⟩, 0) (by rw [← eU]; exact of_udp src dst from_ to_ hf.1 hf.2 ht.1 ht.2) 8 lU (by omega) rfl ⟨hs.1, hs.2, hd.1, hd.2⟩)
  have EU2 := Go.Lib.hid (of_own kO0 ⟨0, 0, false, false, 0, 0, 17, src', dst, [], LU⟩ qu hqu 8 lU (by omega) rfl ⟨b0, b1, hd.1, hd.2⟩)
  have ET1 := Go.Lib.hid (of_own kO0 ⟨0, 0, false, false, 0, 0, 6, src, dst, [], LT⟩ (⟨6, src, from_, dst, to_⟩, 0) (by rw [← eT]; exact of_tcp src dst from_ to_ hf.1 hf.2 ht.1 ht.2) 20 lT (by omega) rfl ⟨hs.1, hs.2, hd.1, hd.2⟩)
  have ET2 := Go.Lib.hid (of_own kO0 ⟨0, 0, false, false, 0, 0, 6, src', dst, [], LT⟩ qt hqt 20 lT (by omega) rfl ⟨b0, b1, hd.1, hd.2⟩)
  dsimp only at EU1 EU2 ET1 ET2
  have zu : (qu.2 == 0) = (x == 0) := by
    rw [Bool.eq_iff_iff, beq_iff_eq, beq_iff_eq]
    constructor
    · intro h
      apply Classical.byContradiction
      intro hn
      have hne : src' ≠ src := fun h' => hn (b3.1 h')
      have := of_udp_other src src' dst from_ to_ (src' - src) hf.1 hf.2 ht.1 ht.2 hs.1 hd.1 b0 (by omega) (by omega) (by omega) (by omega) (by omega)
      rw [eU, hqu] at this
      exact this h
    · intro h
      have h' := b3.2 h
      rw [← hqu, h', ← eU, of_udp src dst from_ to_ hf.1 hf.2 ht.1 ht.2]
  have zt : (qt.2 == 0) = (x == 0) := by
    rw [Bool.eq_iff_iff, beq_iff_eq, beq_iff_eq]
    constructor
    · intro h
      apply Classical.byContradiction
      intro hn
      have hne : src' ≠ src := fun h' => hn (b3.1 h')
      have := of_tcp_other src src' dst from_ to_ (src' - src) hs.1 hd.1 b0 (by omega) (by omega) (by omega) (by omega) (by omega)
      rw [eT, hqt] at this
      exact this h
    · intro h
      have h' := b3.2 h
      rw [← hqt, h', ← eT, of_tcp src dst from_ to_ hf.1 hf.2 ht.1 ht.2]
  have cf : IntKind.i64.wrap from_ = from_ := IntWalk.i64_in _ (by omega)
  have ct : IntKind.i64.wrap to_ = to_ := IntWalk.i64_in _ (by omega)
  have cx : IntKind.u32.wrap x = x := IntWalk.u32_in _ (by omega)
  clear b0 b1 b2 b3 hqu hqt lU lT eU eT kA0 kO0
  obtain ⟨b, hb⟩ : ∃ b, (x == 0) = b := ⟨_, rfl⟩
  rw [hb] at zu zt
  cases seg
  · go_enter Try.func6, Try.ntmps6
    cases b
    · go_upto_region 10 with (first
        | (go_at_call 7; refine (kA.out _).mono ?_; rintro e w1 ⟨rfl, y1⟩; dsimp only)
        | (go_at_call 20; refine (kPU.out _).mono ?_; rintro e wu ⟨gu, cu, rfl, hownu, yu⟩; have HOU := Go.Lib.hid hownu; clear hownu; have xu := y1.trans (yu.mono y1.size); dsimp only)
        | (go_at_call_of 9 (Value.agg #[.int .i64 0, .int .i64 0, .bool false, .bool false, .int .i64 0, .int .i64 0, .int .i64 17, .int .u32 src, .int .u32 dst, .slice none 0 0, .slice (some ⟨gu, 0, none⟩) 8 cu]); refine (EU1.out _ _ gu cu HOU.out).mono ?_; rintro e w8 ⟨rfl, y8⟩; have HOU := Go.Lib.hid (HOU.out.below y8); have x8 := xu.trans (y8.mono xu.size); dsimp only)
        | (go_at_call_of 9 (Value.agg #[.int .i64 0, .int .i64 0, .bool false, .bool false, .int .i64 0, .int .i64 0, .int .i64 17, .int .u32 src', .int .u32 dst, .slice none 0 0, .slice (some ⟨gu, 0, none⟩) 8 cu]); refine (EU2.out _ _ gu cu (HOU.out.below (below_alloc (Below.refl _ _) (Nat.le_refl _) (oTp ⟨17, src, from_, dst, to_⟩)))).mono ?_; rintro e w9 ⟨rfl, y9⟩; dsimp only))
      have x9 : Below w.heap.size w (w9.alloc (oTp qu.1)) := below_alloc ((below_alloc x8 x8.size (oTp ⟨17, src, from_, dst, to_⟩)).trans (y9.mono (by simp; have := x8.size; omega))) (by have := x8.size; have := y9.size; simp at this; omega) _
      have HX := Go.Lib.hid (((Bxo.made w8 27 (tpL ⟨17, src, from_, dst, to_⟩)).keep y9 (by simp)).alloc (oTp qu.1))
      clear HOU y8 y9 x8 EU1 EU2 ET1 ET2 kPU kPT kA
      generalize w9.alloc (.cells (tpL qu.1).toArray 27) = W10 at *
      generalize w9.heap.size = g18 at *
      generalize w8.heap.size = g16 at *
      have e1 : ∀ W, (binOp .eql 27 (tpV ⟨17, src, from_, dst, to_⟩) (tpV ⟨17, src, from_, dst, to_⟩)).run Try.prog W = .ok (.bool true) W := fun W => (eqTp _ _ W).trans (by rw [(sameTp_iff _ _).2 rfl])
      go_wp2_with (refine wpList_load_box rfl 27 _ rfl g16 rfl (tpL ⟨17, src, from_, dst, to_⟩) _ HX.out Try.underlying27 rfl info_tp ?_)
      go_ret
      exact ⟨rfl, x9⟩
    · go_upto_region 10 with (first
        | (go_at_call 7; refine (kA.out _).mono ?_; rintro e w1 ⟨rfl, y1⟩; dsimp only)
        | (go_at_call 20; refine (kPU.out _).mono ?_; rintro e wu ⟨gu, cu, rfl, hownu, yu⟩; have HOU := Go.Lib.hid hownu; clear hownu; have xu := y1.trans (yu.mono y1.size); dsimp only)
        | (go_at_call_of 9 (Value.agg #[.int .i64 0, .int .i64 0, .bool false, .bool false, .int .i64 0, .int .i64 0, .int .i64 17, .int .u32 src, .int .u32 dst, .slice none 0 0, .slice (some ⟨gu, 0, none⟩) 8 cu]); refine (EU1.out _ _ gu cu HOU.out).mono ?_; rintro e w8 ⟨rfl, y8⟩; have HOU := Go.Lib.hid (HOU.out.below y8); have x8 := xu.trans (y8.mono xu.size); dsimp only)
        | (go_at_call_of 9 (Value.agg #[.int .i64 0, .int .i64 0, .bool false, .bool false, .int .i64 0, .int .i64 0, .int .i64 17, .int .u32 src', .int .u32 dst, .slice none 0 0, .slice (some ⟨gu, 0, none⟩) 8 cu]); refine (EU2.out _ _ gu cu (HOU.out.below (below_alloc (Below.refl _ _) (Nat.le_refl _) (oTp ⟨17, src, from_, dst, to_⟩)))).mono ?_; rintro e w9 ⟨rfl, y9⟩; dsimp only))
      have x9 : Below w.heap.size w (w9.alloc (oTp qu.1)) := below_alloc ((below_alloc x8 x8.size (oTp ⟨17, src, from_, dst, to_⟩)).trans (y9.mono (by simp; have := x8.size; omega))) (by have := x8.size; have := y9.size; simp at this; omega) _
      have HX := Go.Lib.hid (((Bxo.made w8 27 (tpL ⟨17, src, from_, dst, to_⟩)).keep y9 (by simp)).alloc (oTp qu.1))
      clear HOU y8 y9 x8 EU1 EU2 ET1 ET2 kPU kPT kA
      generalize w9.alloc (.cells (tpL qu.1).toArray 27) = W10 at *
      generalize w9.heap.size = g18 at *
      generalize w8.heap.size = g16 at *
      have e1 : ∀ W, (binOp .eql 27 (tpV ⟨17, src, from_, dst, to_⟩) (tpV ⟨17, src, from_, dst, to_⟩)).run Try.prog W = .ok (.bool true) W := fun W => (eqTp _ _ W).trans (by rw [(sameTp_iff _ _).2 rfl])
      go_wp2_with (refine wpList_load_box rfl 27 _ rfl g16 rfl (tpL ⟨17, src, from_, dst, to_⟩) _ HX.out Try.underlying27 rfl info_tp ?_)
      go_ret
      exact ⟨rfl, x9⟩
  · go_enter Try.func6, Try.ntmps6
    cases b
    · go_upto_region 10 with (first
        | (go_at_call 7; refine (kA.out _).mono ?_; rintro e w1 ⟨rfl, y1⟩; dsimp only)
        | (go_at_call 20; refine (kPU.out _).mono ?_; rintro e wu ⟨gu, cu, rfl, hownu, yu⟩; have HOU := Go.Lib.hid hownu; clear hownu; have xu := y1.trans (yu.mono y1.size); dsimp only)
        | (go_at_call 21; refine (kPT.out _).mono ?_; rintro e wt ⟨gt, ct, rfl, hownt, yt⟩; have HOT := Go.Lib.hid hownt; clear hownt; have xt := xu.trans (yt.mono xu.size); dsimp only)
        | (go_at_call_of 9 (Value.agg #[.int .i64 0, .int .i64 0, .bool false, .bool false, .int .i64 0, .int .i64 0, .int .i64 6, .int .u32 src, .int .u32 dst, .slice none 0 0, .slice (some ⟨gt, 0, none⟩) 20 ct]); refine (ET1.out _ _ gt ct HOT.out).mono ?_; rintro e w8 ⟨rfl, y8⟩; have HOT := Go.Lib.hid (HOT.out.below y8); have x8 := xt.trans (y8.mono xt.size); dsimp only)
        | (go_at_call_of 9 (Value.agg #[.int .i64 0, .int .i64 0, .bool false, .bool false, .int .i64 0, .int .i64 0, .int .i64 6, .int .u32 src', .int .u32 dst, .slice none 0 0, .slice (some ⟨gt, 0, none⟩) 20 ct]); refine (ET2.out _ _ gt ct (HOT.out.below (below_alloc (Below.refl _ _) (Nat.le_refl _) (oTp ⟨6, src, from_, dst, to_⟩)))).mono ?_; rintro e w9 ⟨rfl, y9⟩; dsimp only))
      have x9 : Below w.heap.size w (w9.alloc (oTp qt.1)) := below_alloc ((below_alloc x8 x8.size (oTp ⟨6, src, from_, dst, to_⟩)).trans (y9.mono (by simp; have := x8.size; omega))) (by have := x8.size; have := y9.size; simp at this; omega) _
      have HX := Go.Lib.hid (((Bxo.made w8 27 (tpL ⟨6, src, from_, dst, to_⟩)).keep y9 (by simp)).alloc (oTp qt.1))
      clear HOU y8 y9 x8 EU1 EU2 ET1 ET2 kPU kPT kA
      generalize w9.alloc (.cells (tpL qt.1).toArray 27) = W10 at *
      generalize w9.heap.size = g18 at *
      generalize w8.heap.size = g16 at *
      have e1 : ∀ W, (binOp .eql 27 (tpV ⟨6, src, from_, dst, to_⟩) (tpV ⟨6, src, from_, dst, to_⟩)).run Try.prog W = .ok (.bool true) W := fun W => (eqTp _ _ W).trans (by rw [(sameTp_iff _ _).2 rfl])
      go_wp2_with (refine wpList_load_box rfl 27 _ rfl g16 rfl (tpL ⟨6, src, from_, dst, to_⟩) _ HX.out Try.underlying27 rfl info_tp ?_)
      go_ret
      exact ⟨rfl, x9⟩
    · go_upto_region 10 with (first
        | (go_at_call 7; refine (kA.out _).mono ?_; rintro e w1 ⟨rfl, y1⟩; dsimp only)
        | (go_at_call 20; refine (kPU.out _).mono ?_; rintro e wu ⟨gu, cu, rfl, hownu, yu⟩; have HOU := Go.Lib.hid hownu; clear hownu; have xu := y1.trans (yu.mono y1.size); dsimp only)
        | (go_at_call 21; refine (kPT.out _).mono ?_; rintro e wt ⟨gt, ct, rfl, hownt, yt⟩; have HOT := Go.Lib.hid hownt; clear hownt; have xt := xu.trans (yt.mono xu.size); dsimp only)
        | (go_at_call_of 9 (Value.agg #[.int .i64 0, .int .i64 0, .bool false, .bool false, .int .i64 0, .int .i64 0, .int .i64 6, .int .u32 src, .int .u32 dst, .slice none 0 0, .slice (some ⟨gt, 0, none⟩) 20 ct]); refine (ET1.out _ _ gt ct HOT.out).mono ?_; rintro e w8 ⟨rfl, y8⟩; have HOT := Go.Lib.hid (HOT.out.below y8); have x8 := xt.trans (y8.mono xt.size); dsimp only)
        | (go_at_call_of 9 (Value.agg #[.int .i64 0, .int .i64 0, .bool false, .bool false, .int .i64 0, .int .i64 0, .int .i64 6, .int .u32 src', .int .u32 dst, .slice none 0 0, .slice (some ⟨gt, 0, none⟩) 20 ct]); refine (ET2.out _ _ gt ct (HOT.out.below (below_alloc (Below.refl _ _) (Nat.le_refl _) (oTp ⟨6, src, from_, dst, to_⟩)))).mono ?_; rintro e w9 ⟨rfl, y9⟩; dsimp only))
      have x9 : Below w.heap.size w (w9.alloc (oTp qt.1)) := below_alloc ((below_alloc x8 x8.size (oTp ⟨6, src, from_, dst, to_⟩)).trans (y9.mono (by simp; have := x8.size; omega))) (by have := x8.size; have := y9.size; simp at this; omega) _
      have HX := Go.Lib.hid (((Bxo.made w8 27 (tpL ⟨6, src, from_, dst, to_⟩)).keep y9 (by simp)).alloc (oTp qt.1))
      clear HOU y8 y9 x8 EU1 EU2 ET1 ET2 kPU kPT kA
      generalize w9.alloc (.cells (tpL qt.1).toArray 27) = W10 at *
      generalize w9.heap.size = g18 at *
      generalize w8.heap.size = g16 at *
      have e1 : ∀ W, (binOp .eql 27 (tpV ⟨6, src, from_, dst, to_⟩) (tpV ⟨6, src, from_, dst, to_⟩)).run Try.prog W = .ok (.bool true) W := fun W => (eqTp _ _ W).trans (by rw [(sameTp_iff _ _).2 rfl])
      go_wp2_with (refine wpList_load_box rfl 27 _ rfl g16 rfl (tpL ⟨6, src, from_, dst, to_⟩) _ HX.out Try.underlying27 rfl info_tp ?_)
      go_ret
      exact ⟨rfl, x9⟩
end Go.Proofs.Ytmgkkgpdnopeaaa
