/- RulesAny, from the contracts. -/
import Derived.Test.YtacohanlpgkdeaaRulesL0
import Derived.Test.YtacohanlpgkdeaaRulesR2
namespace Go.Proofs.Ytacohanlpgkdeaa
open Go.ChangeShapes Go.WideShapes Go.ChangeAt Go.RowKit
set_option linter.unusedVariables false
set_option linter.unusedSimpArgs false

theorem info_intS14 : (Try.prog.info? 3).map (·.size) = some 1 := by kernel_rfl
abbrev uOne (p a : Int) : Ru := ⟨-1, -1, p, 0, 0, 0, 0, 0, 65535, a⟩
abbrev uEvery (a : Int) : Ru := ⟨-1, -1, 0, 0, 0, 0, 0, 0, 65535, a⟩
theorem ask_any {f t : Int} {tp : Tp} (hr : RngTp tp) {p a : Int} (hp : 1 ≤ p ∧ p ≤ 255) (ha : a = 1 ∨ a = 2) : askU [uOne p a, uEvery a] f t tp = if btw 0 tp.dport 65535 then (a, if tp.proto == p then 0 else 1) else (1, -1) := by
  have h1 : rightU [uOne p a, uEvery a] = true := by
    rw [rightU_iff]
    refine ⟨by simp, fun r h => ?_⟩
    simp only [List.mem_cons, List.not_mem_nil, or_false] at h
    rw [okU_iff]
    rcases h with rfl | rfl
    · exact ⟨by dsimp only; omega, by dsimp only; omega, by dsimp only; omega, by dsimp only; omega, by dsimp only; omega, by dsimp only; omega, by dsimp only; omega, by dsimp only; omega, ha⟩
    · exact ⟨by dsimp only; omega, by dsimp only; omega, by dsimp only; omega, by dsimp only; omega, by dsimp only; omega, by dsimp only; omega, by dsimp only; omega, by dsimp only; omega, ha⟩
  unfold askU
  rw [if_pos h1]
  unfold firstU firstU firstU
  rw [fits_any hr, fits_any hr]
  have e0 : (p == 0) = false := by simp; omega
  rw [e0]
  cases hb : btw 0 tp.dport 65535
  · simp
  · by_cases hq : tp.proto = p
    · simp [hq]
    · have hq' : ¬ p = tp.proto := fun e => hq e.symm
      simp [hq, hq']
set_option maxRecDepth 100000 in
set_option maxHeartbeats 8000000 in
theorem rulesAny (kA0 : AwakeC14) (kQ0 : AskC14) (f t : Int) (tp : Tp) (ht : RngTp tp) (pr : Int) (hpr : 0 ≤ pr ∧ pr ≤ 255) (ac : Bool) (w : World) :
    Calls Try.prog 6 #[.int .i64 f, .int .i64 t, tpV tp, .int .u8 pr, .bool ac] w fun e w' => e = .returned (.bool true) ∧ Below w.heap.size w w' := by
  have kA := Go.Lib.hid kA0
  have kQ := Go.Lib.hid kQ0
  have HT := Go.Lib.hid ht
  obtain ⟨p, hp⟩ : ∃ p, pr % 255 + 1 = p := ⟨_, rfl⟩
  obtain ⟨m, hm⟩ : ∃ m, pr % 255 = m := ⟨_, rfl⟩
  have e1 : Int.tmod pr 255 = m := by rw [Int.tmod_eq_emod_of_nonneg hpr.1, hm]
  have e2 : IntKind.i64.wrap m = m := IntWalk.i64_in _ (by omega)
  have e3 : IntKind.i64.wrap (m + 1) = p := by rw [← hp, hm]; exact IntWalk.i64_in _ (by omega)
  have HP : Hid (1 ≤ p ∧ p ≤ 255) := Go.Lib.hid (by omega)
  have y0 : Below w.heap.size w (w.alloc (oTp tp)) := (Below.refl _ _).alloc (Nat.le_refl _) _
  have hbx := Bxo.made w 27 (tpL tp)
  clear kA0 kQ0 ht hp hm
  go_enter Try.func6, Try.ntmps6
  go_upto_region 1 with fail
  generalize w.alloc (oTp tp) = W at *
  have HBX := Go.Lib.hid (show Bxo W w.heap.size 27 (tpL tp) from hbx)
  clear hbx
  cases ac
  · go_upto_region 7 with (go_at_call 7; refine (kA.out _).mono ?_; rintro e w1 ⟨rfl, y1⟩; dsimp only)
    have x1 := y0.trans (y1.mono y0.size)
    have HB1 := Go.Lib.hid (HBX.out.keep y1 HBX.out.lt)
    have y2 : Below w1.heap.size w1 (w1.alloc (.cells #[.int .i64 (-1), .int .i64 (-1), .int .i64 0, .int .u32 0, .int .u32 0, .int .i64 0, .int .i64 0, .int .i64 0, .int .i64 65535, .int .i64 1] 25)) := (Below.refl _ _).alloc (Nat.le_refl _) _
    have x2 := x1.trans (y2.mono x1.size)
    have HB2 := Go.Lib.hid (HB1.out.keep y2 HB1.out.lt)
    have he := Bxo.made w1 25 [.int .i64 (-1), .int .i64 (-1), .int .i64 0, .int .u32 0, .int .u32 0, .int .i64 0, .int .i64 0, .int .i64 0, .int .i64 65535, .int .i64 1]
    have hlt1 := HB1.out.lt
    clear y1 y2 HB1
    generalize w1.alloc (.cells #[.int .i64 (-1), .int .i64 (-1), .int .i64 0, .int .u32 0, .int .u32 0, .int .i64 0, .int .i64 0, .int .i64 0, .int .i64 65535, .int .i64 1] 25) = W2 at *
    generalize w1.heap.size = g1 at *
    have HE2 := Go.Lib.hid (show Bxo W2 g1 25 [.int .i64 (-1), .int .i64 (-1), .int .i64 0, .int .u32 0, .int .u32 0, .int .i64 0, .int .i64 0, .int .i64 0, .int .i64 65535, .int .i64 1] from he)
    clear he
    go_upto_region 8 with (refine wpList_load_box rfl 25 _ rfl g1 rfl [.int .i64 (-1), .int .i64 (-1), .int .i64 0, .int .u32 0, .int .u32 0, .int .i64 0, .int .i64 0, .int .i64 0, .int .i64 65535, .int .i64 1] _ HE2.out Try.underlying25 rfl info_ru ?_)
    have y3 : Below W2.heap.size W2 (W2.alloc (.cells #[.int .i64 (-1), .int .i64 (-1), .int .i64 0, .int .u32 0, .int .u32 0, .int .i64 0, .int .i64 0, .int .i64 0, .int .i64 65535, .int .i64 1] 25)) := (Below.refl _ _).alloc (Nat.le_refl _) _
    have x3 := x2.trans (y3.mono x2.size)
    have HB3 := Go.Lib.hid (HB2.out.keep y3 HB2.out.lt)
    have HE3 := Go.Lib.hid (HE2.out.keep y3 HE2.out.lt)
    have ho := Bxo.made W2 25 [.int .i64 (-1), .int .i64 (-1), .int .i64 0, .int .u32 0, .int .u32 0, .int .i64 0, .int .i64 0, .int .i64 0, .int .i64 65535, .int .i64 1]
    have hlt2 := HE2.out.lt
    have hlt3 := x2.size
    clear y3 HB2 HE2 x2
    generalize W2.alloc (.cells #[.int .i64 (-1), .int .i64 (-1), .int .i64 0, .int .u32 0, .int .u32 0, .int .i64 0, .int .i64 0, .int .i64 0, .int .i64 65535, .int .i64 1] 25) = W3 at *
    generalize W2.heap.size = g2 at *
    have HO3 := Go.Lib.hid (show Bxo W3 g2 25 [.int .i64 (-1), .int .i64 (-1), .int .i64 0, .int .u32 0, .int .u32 0, .int .i64 0, .int .i64 0, .int .i64 0, .int .i64 65535, .int .i64 1] from ho)
    clear ho
    go_upto_region 9 with (refine wpList_store_any rfl 3 _ _ rfl g2 2 25 _ [.int .i64 p] _ rfl rfl rfl HO3.out info_intS14 (by show 2 + 1 ≤ 10; omega) (by simp [Value.oneCell']) ?_; intro w4 hb4 ho4; have HO4 : Hid (Bxo w4 g2 25 [.int .i64 (-1), .int .i64 (-1), .int .i64 p, .int .u32 0, .int .u32 0, .int .i64 0, .int .i64 0, .int .i64 0, .int .i64 65535, .int .i64 1]) := Go.Lib.hid hb4; have HB4 := Go.Lib.hid (HB3.out.only ho4 (by omega)); have HE4 := Go.Lib.hid (HE3.out.only ho4 (by omega)); clear hb4)
    have x4 := x3.trans (ho4.below hlt3)
    have y5 : Below w4.heap.size w4 (w4.alloc (.cells #[.int .i64 (-1), .int .i64 (-1), .int .i64 p, .int .u32 0, .int .u32 0, .int .i64 0, .int .i64 0, .int .i64 0, .int .i64 65535, .int .i64 1, .int .i64 (-1), .int .i64 (-1), .int .i64 0, .int .u32 0, .int .u32 0, .int .i64 0, .int .i64 0, .int .i64 0, .int .i64 65535, .int .i64 1] 25)) := (Below.refl _ _).alloc (Nat.le_refl _) _
    have x5 := x4.trans (y5.mono x4.size)
    have HB5 := Go.Lib.hid (HB4.out.keep y5 HB4.out.lt)
    have HO5 := Go.Lib.hid (HO4.out.keep y5 HO4.out.lt)
    have HL5 : Hid (RusAt (w4.alloc (.cells #[.int .i64 (-1), .int .i64 (-1), .int .i64 p, .int .u32 0, .int .u32 0, .int .i64 0, .int .i64 0, .int .i64 0, .int .i64 65535, .int .i64 1, .int .i64 (-1), .int .i64 (-1), .int .i64 0, .int .u32 0, .int .u32 0, .int .i64 0, .int .i64 0, .int .i64 0, .int .i64 65535, .int .i64 1] 25)) [uOne p 1, uEvery 1] (some ⟨w4.heap.size, 0, none⟩) 2) := Go.Lib.hid ⟨Nat.le_refl _, by omega, (fun e => by cases e), .inr ⟨_, rfl, (Bxo.made w4 25 [.int .i64 (-1), .int .i64 (-1), .int .i64 p, .int .u32 0, .int .u32 0, .int .i64 0, .int .i64 0, .int .i64 0, .int .i64 65535, .int .i64 1, .int .i64 (-1), .int .i64 (-1), .int .i64 0, .int .u32 0, .int .u32 0, .int .i64 0, .int .i64 0, .int .i64 0, .int .i64 65535, .int .i64 1]).at⟩, fun r hr => by
      simp only [List.mem_cons, List.not_mem_nil, or_false] at hr
      rcases hr with rfl | rfl <;> exact ⟨by show (0 : Int) ≤ 0 ∧ (0 : Int) ≤ 4294967295; omega, by show (0 : Int) ≤ 0 ∧ (0 : Int) ≤ 4294967295; omega⟩⟩
    have HQ := Go.Lib.hid (ask_any (f := f) (t := t) HT.out HP.out (show (1 : Int) = 1 ∨ (1 : Int) = 2 by decide))
    have HO4_ := HO4
    have HE4_ := HE4
    clear y5 x4 HO4 HE3 HE4
    have tok1 : True := trivial
    have tok2 : True := trivial
    have tok3 : True := trivial
    by_cases d1 : 0 ≤ tp.dport
    · by_cases d2 : tp.dport ≤ 65535
      · have hbt : btw 0 tp.dport 65535 = true := (btw_iff _ _ _).2 ⟨d1, d2⟩
        by_cases hpp : tp.proto = p
        · have HQ1 : Hid (askU [uOne p 1, uEvery 1] f t tp = (1, 0)) := Go.Lib.hid (by rw [HQ.out, hbt, if_pos rfl]; simp [hpp])
          have hpe : (tp.proto == p) = true := by simp [hpp]
          clear hbt hpp
          go_upto_region 10 with (first
            | (clear tok1; refine wpList_load_box rfl 25 _ rfl g2 rfl [.int .i64 (-1), .int .i64 (-1), .int .i64 p, .int .u32 0, .int .u32 0, .int .i64 0, .int .i64 0, .int .i64 0, .int .i64 65535, .int .i64 1] _ HO4_.out Try.underlying25 rfl info_ru ?_)
            | (clear tok2; refine wpList_load_box rfl 25 _ rfl g1 rfl [.int .i64 (-1), .int .i64 (-1), .int .i64 0, .int .u32 0, .int .u32 0, .int .i64 0, .int .i64 0, .int .i64 0, .int .i64 65535, .int .i64 1] _ HE4_.out Try.underlying25 rfl info_ru ?_)
            | (clear tok3; refine wpList_load_box rfl 27 _ rfl w.heap.size rfl (tpL tp) _ HB5.out Try.underlying27 rfl info_tp ?_)
            | (go_at_call 8; refine (kQ.out [uOne p 1, uEvery 1] _ 2 2 rfl (by decide) f t tp HT.out _ HL5.out _ HQ1.out).mono ?_; rintro e w6 ⟨rfl, y6⟩; have x6 := x5.trans (y6.mono x5.size); have hb6 := HB5.out.keep y6 HB5.out.lt; have ho6 := HO5.out.keep y6 HO5.out.lt; have c0 := hb6.cell 0 rfl; have c4 := hb6.cell 4 rfl; have o2 := ho6.cell 2 rfl; clear hb6 ho6; (try dsimp only at c0 c4 o2); dsimp only))
          go_wp2
          go_ret
          exact ⟨rfl, x6⟩
        · have HQ1 : Hid (askU [uOne p 1, uEvery 1] f t tp = (1, 1)) := Go.Lib.hid (by rw [HQ.out, hbt, if_pos rfl]; simp [hpp])
          have hpe : (tp.proto == p) = false := by simp [hpp]
          clear hbt hpp
          go_upto_region 10 with (first
            | (clear tok1; refine wpList_load_box rfl 25 _ rfl g2 rfl [.int .i64 (-1), .int .i64 (-1), .int .i64 p, .int .u32 0, .int .u32 0, .int .i64 0, .int .i64 0, .int .i64 0, .int .i64 65535, .int .i64 1] _ HO4_.out Try.underlying25 rfl info_ru ?_)
            | (clear tok2; refine wpList_load_box rfl 25 _ rfl g1 rfl [.int .i64 (-1), .int .i64 (-1), .int .i64 0, .int .u32 0, .int .u32 0, .int .i64 0, .int .i64 0, .int .i64 0, .int .i64 65535, .int .i64 1] _ HE4_.out Try.underlying25 rfl info_ru ?_)
            | (clear tok3; refine wpList_load_box rfl 27 _ rfl w.heap.size rfl (tpL tp) _ HB5.out Try.underlying27 rfl info_tp ?_)
            | (go_at_call 8; refine (kQ.out [uOne p 1, uEvery 1] _ 2 2 rfl (by decide) f t tp HT.out _ HL5.out _ HQ1.out).mono ?_; rintro e w6 ⟨rfl, y6⟩; have x6 := x5.trans (y6.mono x5.size); have hb6 := HB5.out.keep y6 HB5.out.lt; have ho6 := HO5.out.keep y6 HO5.out.lt; have c0 := hb6.cell 0 rfl; have c4 := hb6.cell 4 rfl; have o2 := ho6.cell 2 rfl; clear hb6 ho6; (try dsimp only at c0 c4 o2); dsimp only))
          go_wp2
          go_ret
          exact ⟨rfl, x6⟩
      · have HQ1 : Hid (askU [uOne p 1, uEvery 1] f t tp = (1, -1)) := Go.Lib.hid (by
          rw [HQ.out]
          unfold btw
          rw [decide_eq_false d2, Bool.and_false, if_neg (by simp)])
        go_upto_region 10 with (first
          | (clear tok1; refine wpList_load_box rfl 25 _ rfl g2 rfl [.int .i64 (-1), .int .i64 (-1), .int .i64 p, .int .u32 0, .int .u32 0, .int .i64 0, .int .i64 0, .int .i64 0, .int .i64 65535, .int .i64 1] _ HO4_.out Try.underlying25 rfl info_ru ?_)
          | (clear tok2; refine wpList_load_box rfl 25 _ rfl g1 rfl [.int .i64 (-1), .int .i64 (-1), .int .i64 0, .int .u32 0, .int .u32 0, .int .i64 0, .int .i64 0, .int .i64 0, .int .i64 65535, .int .i64 1] _ HE4_.out Try.underlying25 rfl info_ru ?_)
          | (clear tok3; refine wpList_load_box rfl 27 _ rfl w.heap.size rfl (tpL tp) _ HB5.out Try.underlying27 rfl info_tp ?_)
          | (go_at_call 8; refine (kQ.out [uOne p 1, uEvery 1] _ 2 2 rfl (by decide) f t tp HT.out _ HL5.out _ HQ1.out).mono ?_; rintro e w6 ⟨rfl, y6⟩; have x6 := x5.trans (y6.mono x5.size); have hb6 := HB5.out.keep y6 HB5.out.lt; have ho6 := HO5.out.keep y6 HO5.out.lt; have c0 := hb6.cell 0 rfl; have c4 := hb6.cell 4 rfl; have o2 := ho6.cell 2 rfl; clear hb6 ho6; (try dsimp only at c0 c4 o2); dsimp only))
        go_wp2
        go_ret
        exact ⟨rfl, x6⟩
    · have HQ1 : Hid (askU [uOne p 1, uEvery 1] f t tp = (1, -1)) := Go.Lib.hid (by
        rw [HQ.out]
        unfold btw
        rw [decide_eq_false d1, Bool.false_and, if_neg (by simp)])
      go_upto_region 10 with (first
        | (clear tok1; refine wpList_load_box rfl 25 _ rfl g2 rfl [.int .i64 (-1), .int .i64 (-1), .int .i64 p, .int .u32 0, .int .u32 0, .int .i64 0, .int .i64 0, .int .i64 0, .int .i64 65535, .int .i64 1] _ HO4_.out Try.underlying25 rfl info_ru ?_)
        | (clear tok2; refine wpList_load_box rfl 25 _ rfl g1 rfl [.int .i64 (-1), .int .i64 (-1), .int .i64 0, .int .u32 0, .int .u32 0, .int .i64 0, .int .i64 0, .int .i64 0, .int .i64 65535, .int .i64 1] _ HE4_.out Try.underlying25 rfl info_ru ?_)
        | (clear tok3; refine wpList_load_box rfl 27 _ rfl w.heap.size rfl (tpL tp) _ HB5.out Try.underlying27 rfl info_tp ?_)
        | (go_at_call 8; refine (kQ.out [uOne p 1, uEvery 1] _ 2 2 rfl (by decide) f t tp HT.out _ HL5.out _ HQ1.out).mono ?_; rintro e w6 ⟨rfl, y6⟩; have x6 := x5.trans (y6.mono x5.size); have hb6 := HB5.out.keep y6 HB5.out.lt; have ho6 := HO5.out.keep y6 HO5.out.lt; have c0 := hb6.cell 0 rfl; have c4 := hb6.cell 4 rfl; have o2 := ho6.cell 2 rfl; clear hb6 ho6; (try dsimp only at c0 c4 o2); dsimp only))
      go_wp2
      go_ret
      exact ⟨rfl, x6⟩
  · go_upto_region 7 with (go_at_call 7; refine (kA.out _).mono ?_; rintro e w1 ⟨rfl, y1⟩; dsimp only)
    have x1 := y0.trans (y1.mono y0.size)
    have HB1 := Go.Lib.hid (HBX.out.keep y1 HBX.out.lt)
    have y2 : Below w1.heap.size w1 (w1.alloc (.cells #[.int .i64 (-1), .int .i64 (-1), .int .i64 0, .int .u32 0, .int .u32 0, .int .i64 0, .int .i64 0, .int .i64 0, .int .i64 65535, .int .i64 2] 25)) := (Below.refl _ _).alloc (Nat.le_refl _) _
    have x2 := x1.trans (y2.mono x1.size)
    have HB2 := Go.Lib.hid (HB1.out.keep y2 HB1.out.lt)
    have he := Bxo.made w1 25 [.int .i64 (-1), .int .i64 (-1), .int .i64 0, .int .u32 0, .int .u32 0, .int .i64 0, .int .i64 0, .int .i64 0, .int .i64 65535, .int .i64 2]
    have hlt1 := HB1.out.lt
    clear y1 y2 HB1
    generalize w1.alloc (.cells #[.int .i64 (-1), .int .i64 (-1), .int .i64 0, .int .u32 0, .int .u32 0, .int .i64 0, .int .i64 0, .int .i64 0, .int .i64 65535, .int .i64 2] 25) = W2 at *
    generalize w1.heap.size = g1 at *
    have HE2 := Go.Lib.hid (show Bxo W2 g1 25 [.int .i64 (-1), .int .i64 (-1), .int .i64 0, .int .u32 0, .int .u32 0, .int .i64 0, .int .i64 0, .int .i64 0, .int .i64 65535, .int .i64 2] from he)
    clear he
    go_upto_region 8 with (refine wpList_load_box rfl 25 _ rfl g1 rfl [.int .i64 (-1), .int .i64 (-1), .int .i64 0, .int .u32 0, .int .u32 0, .int .i64 0, .int .i64 0, .int .i64 0, .int .i64 65535, .int .i64 2] _ HE2.out Try.underlying25 rfl info_ru ?_)
    have y3 : Below W2.heap.size W2 (W2.alloc (.cells #[.int .i64 (-1), .int .i64 (-1), .int .i64 0, .int .u32 0, .int .u32 0, .int .i64 0, .int .i64 0, .int .i64 0, .int .i64 65535, .int .i64 2] 25)) := (Below.refl _ _).alloc (Nat.le_refl _) _
    have x3 := x2.trans (y3.mono x2.size)
    have HB3 := Go.Lib.hid (HB2.out.keep y3 HB2.out.lt)
    have HE3 := Go.Lib.hid (HE2.out.keep y3 HE2.out.lt)
    have ho := Bxo.made W2 25 [.int .i64 (-1), .int .i64 (-1), .int .i64 0, .int .u32 0, .int .u32 0, .int .i64 0, .int .i64 0, .int .i64 0, .int .i64 65535, .int .i64 2]
    have hlt2 := HE2.out.lt
    have hlt3 := x2.size
    clear y3 HB2 HE2 x2
    generalize W2.alloc (.cells #[.int .i64 (-1), .int .i64 (-1), .int .i64 0, .int .u32 0, .int .u32 0, .int .i64 0, .int .i64 0, .int .i64 0, .int .i64 65535, .int .i64 2] 25) = W3 at *
    generalize W2.heap.size = g2 at *
    have HO3 := Go.Lib.hid (show Bxo W3 g2 25 [.int .i64 (-1), .int .i64 (-1), .int .i64 0, .int .u32 0, .int .u32 0, .int .i64 0, .int .i64 0, .int .i64 0, .int .i64 65535, .int .i64 2] from ho)
    clear ho
    go_upto_region 9 with (refine wpList_store_any rfl 3 _ _ rfl g2 2 25 _ [.int .i64 p] _ rfl rfl rfl HO3.out info_intS14 (by show 2 + 1 ≤ 10; omega) (by simp [Value.oneCell']) ?_; intro w4 hb4 ho4; have HO4 : Hid (Bxo w4 g2 25 [.int .i64 (-1), .int .i64 (-1), .int .i64 p, .int .u32 0, .int .u32 0, .int .i64 0, .int .i64 0, .int .i64 0, .int .i64 65535, .int .i64 2]) := Go.Lib.hid hb4; have HB4 := Go.Lib.hid (HB3.out.only ho4 (by omega)); have HE4 := Go.Lib.hid (HE3.out.only ho4 (by omega)); clear hb4)
    have x4 := x3.trans (ho4.below hlt3)
    have y5 : Below w4.heap.size w4 (w4.alloc (.cells #[.int .i64 (-1), .int .i64 (-1), .int .i64 p, .int .u32 0, .int .u32 0, .int .i64 0, .int .i64 0, .int .i64 0, .int .i64 65535, .int .i64 2, .int .i64 (-1), .int .i64 (-1), .int .i64 0, .int .u32 0, .int .u32 0, .int .i64 0, .int .i64 0, .int .i64 0, .int .i64 65535, .int .i64 2] 25)) := (Below.refl _ _).alloc (Nat.le_refl _) _
    have x5 := x4.trans (y5.mono x4.size)
    have HB5 := Go.Lib.hid (HB4.out.keep y5 HB4.out.lt)
    have HO5 := Go.Lib.hid (HO4.out.keep y5 HO4.out.lt)
    have HL5 : Hid (RusAt (w4.alloc (.cells #[.int .i64 (-1), .int .i64 (-1), .int .i64 p, .int .u32 0, .int .u32 0, .int .i64 0, .int .i64 0, .int .i64 0, .int .i64 65535, .int .i64 2, .int .i64 (-1), .int .i64 (-1), .int .i64 0, .int .u32 0, .int .u32 0, .int .i64 0, .int .i64 0, .int .i64 0, .int .i64 65535, .int .i64 2] 25)) [uOne p 2, uEvery 2] (some ⟨w4.heap.size, 0, none⟩) 2) := Go.Lib.hid ⟨Nat.le_refl _, by omega, (fun e => by cases e), .inr ⟨_, rfl, (Bxo.made w4 25 [.int .i64 (-1), .int .i64 (-1), .int .i64 p, .int .u32 0, .int .u32 0, .int .i64 0, .int .i64 0, .int .i64 0, .int .i64 65535, .int .i64 2, .int .i64 (-1), .int .i64 (-1), .int .i64 0, .int .u32 0, .int .u32 0, .int .i64 0, .int .i64 0, .int .i64 0, .int .i64 65535, .int .i64 2]).at⟩, fun r hr => by
      simp only [List.mem_cons, List.not_mem_nil, or_false] at hr
      rcases hr with rfl | rfl <;> exact ⟨by show (0 : Int) ≤ 0 ∧ (0 : Int) ≤ 4294967295; omega, by show (0 : Int) ≤ 0 ∧ (0 : Int) ≤ 4294967295; omega⟩⟩
    have HQ := Go.Lib.hid (ask_any (f := f) (t := t) HT.out HP.out (show (2 : Int) = 1 ∨ (2 : Int) = 2 by decide))
    have HO4_ := HO4
    have HE4_ := HE4
    clear y5 x4 HO4 HE3 HE4
    have tok1 : True := trivial
    have tok2 : True := trivial
    have tok3 : True := trivial
    by_cases d1 : 0 ≤ tp.dport
    · by_cases d2 : tp.dport ≤ 65535
      · have hbt : btw 0 tp.dport 65535 = true := (btw_iff _ _ _).2 ⟨d1, d2⟩
        by_cases hpp : tp.proto = p
        · have HQ1 : Hid (askU [uOne p 2, uEvery 2] f t tp = (2, 0)) := Go.Lib.hid (by rw [HQ.out, hbt, if_pos rfl]; simp [hpp])
          have hpe : (tp.proto == p) = true := by simp [hpp]
          clear hbt hpp
          go_upto_region 10 with (first
            | (clear tok1; refine wpList_load_box rfl 25 _ rfl g2 rfl [.int .i64 (-1), .int .i64 (-1), .int .i64 p, .int .u32 0, .int .u32 0, .int .i64 0, .int .i64 0, .int .i64 0, .int .i64 65535, .int .i64 2] _ HO4_.out Try.underlying25 rfl info_ru ?_)
            | (clear tok2; refine wpList_load_box rfl 25 _ rfl g1 rfl [.int .i64 (-1), .int .i64 (-1), .int .i64 0, .int .u32 0, .int .u32 0, .int .i64 0, .int .i64 0, .int .i64 0, .int .i64 65535, .int .i64 2] _ HE4_.out Try.underlying25 rfl info_ru ?_)
            | (clear tok3; refine wpList_load_box rfl 27 _ rfl w.heap.size rfl (tpL tp) _ HB5.out Try.underlying27 rfl info_tp ?_)
            | (go_at_call 8; refine (kQ.out [uOne p 2, uEvery 2] _ 2 2 rfl (by decide) f t tp HT.out _ HL5.out _ HQ1.out).mono ?_; rintro e w6 ⟨rfl, y6⟩; have x6 := x5.trans (y6.mono x5.size); have hb6 := HB5.out.keep y6 HB5.out.lt; have ho6 := HO5.out.keep y6 HO5.out.lt; have c0 := hb6.cell 0 rfl; have c4 := hb6.cell 4 rfl; have o2 := ho6.cell 2 rfl; clear hb6 ho6; (try dsimp only at c0 c4 o2); dsimp only))
          go_wp2
          go_ret
          exact ⟨rfl, x6⟩
        · have HQ1 : Hid (askU [uOne p 2, uEvery 2] f t tp = (2, 1)) := Go.Lib.hid (by rw [HQ.out, hbt, if_pos rfl]; simp [hpp])
          have hpe : (tp.proto == p) = false := by simp [hpp]
          clear hbt hpp
          go_upto_region 10 with (first
            | (clear tok1; refine wpList_load_box rfl 25 _ rfl g2 rfl [.int .i64 (-1), .int .i64 (-1), .int .i64 p, .int .u32 0, .int .u32 0, .int .i64 0, .int .i64 0, .int .i64 0, .int .i64 65535, .int .i64 2] _ HO4_.out Try.underlying25 rfl info_ru ?_)
            | (clear tok2; refine wpList_load_box rfl 25 _ rfl g1 rfl [.int .i64 (-1), .int .i64 (-1), .int .i64 0, .int .u32 0, .int .u32 0, .int .i64 0, .int .i64 0, .int .i64 0, .int .i64 65535, .int .i64 2] _ HE4_.out Try.underlying25 rfl info_ru ?_)
            | (clear tok3; refine wpList_load_box rfl 27 _ rfl w.heap.size rfl (tpL tp) _ HB5.out Try.underlying27 rfl info_tp ?_)
            | (go_at_call 8; refine (kQ.out [uOne p 2, uEvery 2] _ 2 2 rfl (by decide) f t tp HT.out _ HL5.out _ HQ1.out).mono ?_; rintro e w6 ⟨rfl, y6⟩; have x6 := x5.trans (y6.mono x5.size); have hb6 := HB5.out.keep y6 HB5.out.lt; have ho6 := HO5.out.keep y6 HO5.out.lt; have c0 := hb6.cell 0 rfl; have c4 := hb6.cell 4 rfl; have o2 := ho6.cell 2 rfl; clear hb6 ho6; (try dsimp only at c0 c4 o2); dsimp only))
          go_wp2
          go_ret
          exact ⟨rfl, x6⟩
      · have HQ1 : Hid (askU [uOne p 2, uEvery 2] f t tp = (1, -1)) := Go.Lib.hid (by
          rw [HQ.out]
          unfold btw
          rw [decide_eq_false d2, Bool.and_false, if_neg (by simp)])
        go_upto_region 10 with (first
          | (clear tok1; refine wpList_load_box rfl 25 _ rfl g2 rfl [.int .i64 (-1), .int .i64 (-1), .int .i64 p, .int .u32 0, .int .u32 0, .int .i64 0, .int .i64 0, .int .i64 0, .int .i64 65535, .int .i64 2] _ HO4_.out Try.underlying25 rfl info_ru ?_)
          | (clear tok2; refine wpList_load_box rfl 25 _ rfl g1 rfl [.int .i64 (-1), .int .i64 (-1), .int .i64 0, .int .u32 0, .int .u32 0, .int .i64 0, .int .i64 0, .int .i64 0, .int .i64 65535, .int .i64 2] _ HE4_.out Try.underlying25 rfl info_ru ?_)
          | (clear tok3; refine wpList_load_box rfl 27 _ rfl w.heap.size rfl (tpL tp) _ HB5.out Try.underlying27 rfl info_tp ?_)
          | (go_at_call 8; refine (kQ.out [uOne p 2, uEvery 2] _ 2 2 rfl (by decide) f t tp HT.out _ HL5.out _ HQ1.out).mono ?_; rintro e w6 ⟨rfl, y6⟩; have x6 := x5.trans (y6.mono x5.size); have hb6 := HB5.out.keep y6 HB5.out.lt; have ho6 := HO5.out.keep y6 HO5.out.lt; have c0 := hb6.cell 0 rfl; have c4 := hb6.cell 4 rfl; have o2 := ho6.cell 2 rfl; clear hb6 ho6; (try dsimp only at c0 c4 o2); dsimp only))
        go_wp2
        go_ret
        exact ⟨rfl, x6⟩
    · have HQ1 : Hid (askU [uOne p 2, uEvery 2] f t tp = (1, -1)) := Go.Lib.hid (by
        rw [HQ.out]
        unfold btw
        rw [decide_eq_false d1, Bool.false_and, if_neg (by simp)])
      go_upto_region 10 with (first
        | (clear tok1; refine wpList_load_box rfl 25 _ rfl g2 rfl [.int .i64 (-1), .int .i64 (-1), .int .i64 p, .int .u32 0, .int .u32 0, .int .i64 0, .int .i64 0, .int .i64 0, .int .i64 65535, .int .i64 2] _ HO4_.out Try.underlying25 rfl info_ru ?_)
        | (clear tok2; refine wpList_load_box rfl 25 _ rfl g1 rfl [.int .i64 (-1), .int .i64 (-1), .int .i64 0, .int .u32 0, .int .u32 0, .int .i64 0, .int .i64 0, .int .i64 0, .int .i64 65535, .int .i64 2] _ HE4_.out Try.underlying25 rfl info_ru ?_)
        | (clear tok3; refine wpList_load_box rfl 27 _ rfl w.heap.size rfl (tpL tp) _ HB5.out Try.underlying27 rfl info_tp ?_)
        | (go_at_call 8; refine (kQ.out [uOne p 2, uEvery 2] _ 2 2 rfl (by decide) f t tp HT.out _ HL5.out _ HQ1.out).mono ?_; rintro e w6 ⟨rfl, y6⟩; have x6 := x5.trans (y6.mono x5.size); have hb6 := HB5.out.keep y6 HB5.out.lt; have ho6 := HO5.out.keep y6 HO5.out.lt; have c0 := hb6.cell 0 rfl; have c4 := hb6.cell 4 rfl; have o2 := ho6.cell 2 rfl; clear hb6 ho6; (try dsimp only at c0 c4 o2); dsimp only))
      go_wp2
      go_ret
      exact ⟨rfl, x6⟩
end Go.Proofs.Ytacohanlpgkdeaa
