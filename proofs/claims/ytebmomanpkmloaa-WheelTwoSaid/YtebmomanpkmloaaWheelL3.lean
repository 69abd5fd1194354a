/- Statements of layer 11, walked: two ticks are one. -/
import Derived.Test.YtebmomanpkmloaaWheelR
namespace Go.Proofs.Ytebmomanpkmloaa
open Go.ChangeShapes Go.WideShapes Go.ChangeAt Go.RowKit
set_option linter.unusedVariables false
set_option linter.unusedSimpArgs false

/-- two wheels, apart. -/
structure TwoI (K : WheelC) (w0 : World) (a b : Addr) (x y : Wh) (F G : Nat → Prop) (wr : World) : Prop where
  l : WhI K w0 a x F wr
  r : WhI K w0 b y G wr
  ap : ∀ k, F k → ¬ G k
section
variable {K : WheelC} {w0 wr wx : World} {a b : Addr} {x y x' y' : Wh} {F G F' G' : Nat → Prop}
theorem TwoI.call (h : TwoI K w0 a b x y F G wr) (z : Below wr.heap.size wr wx) : TwoI K w0 a b x y F G wx := ⟨h.l.call z, h.r.call z, h.ap⟩
theorem TwoI.turnL (h : TwoI K w0 a b x y F G wr) (r : K.Rep wx a x' F') (n : Newer wr F F') (m : Moves wr wx F) : TwoI K w0 a b x' y F' G wx := by
  have hl := h.l.turn r n m
  refine ⟨hl, ⟨K.keep h.r.rep (fun k hk => m.block k (K.lt h.r.rep k hk) (fun f => h.ap k f hk)) m.size, h.r.ge, hl.below⟩, fun k hk g => ?_⟩
  rcases n k hk with q | q
  · exact h.ap k q g
  · have := K.lt h.r.rep k g; omega
theorem TwoI.turnR (h : TwoI K w0 a b x y F G wr) (r : K.Rep wx b y' G') (n : Newer wr G G') (m : Moves wr wx G) : TwoI K w0 a b x y' F G' wx := by
  have hr := h.r.turn r n m
  refine ⟨⟨K.keep h.l.rep (fun k hk => m.block k (K.lt h.l.rep k hk) (fun f => h.ap k hk f)) m.size, h.l.ge, hr.below⟩, hr, fun k hk g => ?_⟩
  rcases n k g with q | q
  · exact h.ap k hk q
  · have := K.lt h.l.rep k hk; omega
end
/-- what was due lies apart from a wheel that turns. -/
theorem InsAt.moved {w w' : World} {F : Nat → Prop} {l : List Int} {A : Option Addr} {c : Nat} (h : InsAt .i64 w l A c) (hlt : ∀ ad, A = some ad → ad.block < w.heap.size) (hF : ∀ ad, A = some ad → ¬ F ad.block) (m : Moves w w' F) : InsAt .i64 w' l A c :=
  h.keepB fun ad e => m.block _ (hlt ad e) (hF ad e)
theorem due_bound {x X1 : Wh} {f g : Int} {O : List Int} (h : tickH x f = (X1, O, g)) (hs : x.list.length ≤ 256) : O.length ≤ 256 := by
  unfold tickH at h
  split at h
  · injection h with _ h; injection h with h _; rw [← h]; decide
  · injection h with _ h; injection h with h _
    rw [← h]
    unfold numsA
    rw [List.length_map]
    have := due_length x.list f
    omega
set_option maxRecDepth 100000 in
set_option maxHeartbeats 16000000 in
theorem wheelTwo (kA0 : AwakeC11) (K : WheelC) (L : List Int) (A : Option Addr) (c : Nat) (f s nu an : Int) (w : World) (h : InsAt .u16 w L A c) (hr : ∀ n ∈ L, 0 ≤ n ∧ n ≤ 65535) (f0 : 0 ≤ f) (f1 : f ≤ 65535) (s0 : 0 ≤ s) (s1 : s ≤ 65535) (u0 : 0 ≤ nu) (u1 : nu ≤ 255) (a0 : 0 ≤ an) (a1 : an ≤ 65535) :
    Calls Try.prog 5 #[.slice A L.length c, .int .u16 f, .int .u16 s, .int .u8 nu, .int .u16 an] w fun e w' => e = .returned (.bool true) ∧ Below w.heap.size w w' := by
  have kA := Go.Lib.hid kA0
  have hcap := h.cap
  have x0 : Below w.heap.size w w := Below.refl _ _
  obtain ⟨M, hM, hml, hmr, hMA, hm, hmc⟩ := h.first200 hr
  have HMR := Go.Lib.hid hmr
  have HA := Go.Lib.hid hMA
  have hm0 : (0 : Int) ≤ (M.length : Int) := by omega
  have ef : IntKind.i64.wrap f = f := IntWalk.i64_in _ (by omega)
  have es : IntKind.i64.wrap s = s := IntWalk.i64_in _ (by omega)
  have efs : IntKind.i64.wrap (f + s) = f + s := IntWalk.i64_in _ (by omega)
  have eu : IntKind.i64.wrap nu = nu := IntWalk.i64_in _ (by omega)
  have ea : IntKind.i64.wrap an = an := IntWalk.i64_in _ (by omega)
  have ea1 : IntKind.i64.wrap (an + 1) = an + 1 := IntWalk.i64_in _ (by omega)
  clear kA0 h hr hM hmr hMA
  obtain ⟨i0, hi, hz0, hz1, hz2⟩ := info_parts info_int
  go_enter Try.func5, Try.ntmps5
  go_upto_region 5 with (first
    | (go_at_call 7; refine (kA.out _).mono ?_; rintro e w1 ⟨rfl, y1⟩; have x1 := x0.trans (y1.mono x0.size); dsimp only)
    | (go_at_call 8; refine (K.new w2).mono ?_; rintro e w3 ⟨ad2, F3, rfl, r3, f3, y3⟩; have H3 : Hid (TwoI K w ad ad2 wh0 wh0 F2 F3 w3) := Go.Lib.hid ⟨H2.out.call y3, WhI.made H2.out.below r3 f3 y3, fun k hk hg => by have q1 := K.lt H2.out.rep k hk; have q2 := f3 k hg; omega⟩; clear r3 f3 y3; dsimp only)
    | (go_at_call 8; refine (K.new w1).mono ?_; rintro e w2 ⟨ad, F2, rfl, r2, f2, y2⟩; have H2 := Go.Lib.hid (WhI.made x1 r2 f2 y2); clear r2 f2 y2; dsimp only))
  try rw [Int.toNat_natCast]
  clear hm H2
  go_wp2_with fail
  go_loopw [13] (fun iv wr => ∃ (k : Nat) (F G : Nat → Prop), k ≤ M.length ∧ iv = .int .i64 k ∧ TwoI K w ad ad2 ⟨allA (M.take k), 0⟩ ⟨allA (M.take k), 0⟩ F G wr) (fun iv _ => M.length - (intOf iv).toNat)
  case atStart => exact ⟨0, F2, F3, by omega, rfl, H3.out⟩
  case round =>
    rename World => wo
    obtain ⟨k, F, G, hk, rfl, hw⟩ := hrel
    have HW := Go.Lib.hid hw
    have k0 : (0 : Int) ≤ (k : Int) := by omega
    clear hw H3
    by_cases hkl : k < M.length
    · have hkl' : (k : Int) < (M.length : Int) := by omega
      obtain ⟨adA, rfl, hcA⟩ := HA.out.cell hkl
      have ca := hcA wo HW.out.l.below
      have hst := Go.Lib.hid (all_set M HMR.out hml k hkl)
      obtain ⟨n0, n1⟩ := HMR.out M[k] (List.getElem_mem hkl)
      generalize M[k] = n at *
      have e1 : IntKind.i64.wrap n = n := IntWalk.i64_in _ (by omega)
      have e2 : IntKind.i64.wrap (n + 1) = n + 1 := IntWalk.i64_in _ (by omega)
      have e3 : IntKind.i64.wrap ((k : Int) + 1) = (k : Int) + 1 := IntWalk.i64_in _ (by omega)
      go_wp2_with (first
        | (go_at_call_of 10 (Value.pointer (some ad2)); refine (K.set H4.out.r.rep (k : Int) (n + 1) (⟨allA (M.take (k + 1)), 0⟩, 0) hst.out).mono ?_; rintro e w5 ⟨F5, rfl, r5, n5, m5⟩; have H5 := Go.Lib.hid (H4.out.turnR r5 n5 m5); clear r5 n5 m5; dsimp only)
        | (go_at_call_of 10 (Value.pointer (some ad)); refine (K.set HW.out.l.rep (k : Int) (n + 1) (⟨allA (M.take (k + 1)), 0⟩, 0) hst.out).mono ?_; rintro e w4 ⟨F4, rfl, r4, n4, m4⟩; have H4 := Go.Lib.hid (HW.out.turnL r4 n4 m4); have ca := hcA w4 H4.out.l.below; clear r4 n4 m4; dsimp only))
      go_round
      case rel => exact ⟨k + 1, F4, F5, by omega, by go_num, H5.out⟩
      case measure => simp [intOf]; omega
    · obtain rfl : k = M.length := by omega
      have hkl' : ¬ (M.length : Int) < (M.length : Int) := by omega
      have H0 : Hid (TwoI K w ad ad2 ⟨allA M, 0⟩ ⟨allA M, 0⟩ F G wo) := Go.Lib.hid (by have q := HW.out; rw [List.take_length] at q; exact q)
      clear HW
      go_upto_if 57 with fail
      go_cut [] (fun wx => ∃ (X : Wh) (F' G' : Nat → Prop), X.now = 0 ∧ TwoI K w ad ad2 X X F' G' wx)
      case first =>
        by_cases hnu : nu < (M.length : Int)
        · obtain ⟨m, rfl⟩ : ∃ m : Nat, nu = (m : Int) := ⟨nu.toNat, by omega⟩
          have hmm : m < M.length := by omega
          have hfd := all_find M m hmm
          have q1 := Go.Lib.hid (set_found (x := ⟨allA M, 0⟩) (n := (m : Int)) (t := 70000) ⟨by omega, by omega, (by show (0 : Int) < 70000; omega), by omega⟩ (Int.le_refl 0) hfd)
          have q2 := Go.Lib.hid (set_found (x := ⟨allA M, 0⟩) (n := (m : Int)) (t := an + 1) ⟨by omega, by omega, (by show (0 : Int) < an + 1; omega), by omega⟩ (Int.le_refl 0) hfd)
          have q3 := set_twice (x := ⟨allA M, 0⟩) (n := (m : Int)) (t := 70000) (u := an + 1) (all_once M) ⟨by omega, by omega, (by show (0 : Int) < 70000; omega), by omega⟩ ⟨(by show (0 : Int) < an + 1; omega), by omega⟩ (Int.le_refl 0) hfd
          rw [q1.out, q2.out] at q3
          have Q3 := Go.Lib.hid q3
          obtain ⟨X1, hX1⟩ : ∃ X1 : Wh, (⟨(allA M).take m ++ (allA M).drop (m + 1) ++ [⟨(m : Int), 70000⟩], 0⟩ : Wh) = X1 := ⟨_, rfl⟩
          obtain ⟨X2, hX2⟩ : ∃ X2 : Wh, (⟨(allA M).take m ++ (allA M).drop (m + 1) ++ [⟨(m : Int), an + 1⟩], 0⟩ : Wh) = X2 := ⟨_, rfl⟩
          have hn2 : X2.now = 0 := by rw [← hX2]
          dsimp only at q1 q2 Q3
          rw [hX1] at q1 Q3
          rw [hX2] at q2 Q3
          clear hX1 hX2 q3 hfd
          go_wp2_with (first
            | (go_at_call_of 10 (Value.int .i64 70000); refine (K.set H0.out.l.rep (m : Int) 70000 (X1, 0) q1.out).mono ?_; rintro e w4 ⟨F4, rfl, r4, n4, m4⟩; have H4 := Go.Lib.hid (H0.out.turnL r4 n4 m4); clear r4 n4 m4; dsimp only)
            | (go_at_call_of 10 (Value.pointer (some ad2)); refine (K.set H5.out.r.rep (m : Int) (an + 1) (X2, 0) q2.out).mono ?_; rintro e w6 ⟨F6, rfl, r6, n6, m6⟩; have H6 := Go.Lib.hid (H5.out.turnR r6 n6 m6); clear r6 n6 m6; dsimp only)
            | (go_at_call_of 10 (Value.pointer (some ad)); refine (K.set H4.out.l.rep (m : Int) (an + 1) (X2, 0) Q3.out).mono ?_; rintro e w5 ⟨F5, rfl, r5, n5, m5⟩; have H5 := Go.Lib.hid (H4.out.turnL r5 n5 m5); clear r5 n5 m5; dsimp only))
          go_meet
          exact ⟨X2, F5, F6, hn2, H6.out⟩
        · go_wp2_with fail
          go_meet
          exact ⟨⟨allA M, 0⟩, F, G, rfl, H0.out⟩
      case rest =>
        clear H0
        obtain ⟨X, F', G', hx0, hw⟩ := hcut
        rename World => wp
        have H0 := Go.Lib.hid hw
        obtain ⟨t1, t2⟩ := tick_two (x := X) (f := f) (g := f + s) (by omega) (by omega) (by omega)
        obtain ⟨⟨X1, O1, g1⟩, hq1⟩ : ∃ q, tickH X f = q := ⟨_, rfl⟩
        obtain ⟨⟨X2, O2, g2⟩, hq2⟩ : ∃ q, tickH X1 (f + s) = q := ⟨_, rfl⟩
        obtain ⟨⟨X3, O3, g3⟩, hq3⟩ : ∃ q, tickH X (f + s) = q := ⟨_, rfl⟩
        rw [hq1, hq3] at t1 t2
        dsimp only at t1 t2
        rw [hq2] at t1 t2
        dsimp only at t1 t2
        subst t2
        have Q1 := Go.Lib.hid hq1
        have Q2 := Go.Lib.hid hq2
        have Q3 := Go.Lib.hid hq3
        have HT := Go.Lib.hid t1
        clear hw hx0 t1 hq1 hq2 hq3
        have GL := Go.Lib.hid (fun k (hk : G' k) => K.lt H0.out.r.rep k hk)
        go_upto_region 16 with (first
          | (go_at_call_of 14 (Value.int .i64 f); refine (K.tick H0.out.l.rep f (X1, O1, g1) Q1.out).mono ?_; rintro e w4 ⟨F4, A4, c4, rfl, d4, r4, n4, m4⟩; have H4 := Go.Lib.hid (H0.out.turnL r4 n4 m4); have D4 := Go.Lib.hid d4; have z4 := m4.size; clear r4 n4 m4 d4; dsimp only)
          | (go_at_call_of 14 (Value.pointer (some ad2)); refine (K.tick H5.out.r.rep (f + s) (X2, O3, g3) Q3.out).mono ?_; rintro e w6 ⟨F6, A6, c6, rfl, d6, r6, n6, m6⟩; have H6 := Go.Lib.hid (H5.out.turnR r6 n6 m6); have E4 := Go.Lib.hid (E4.out.moved (fun ad e => Nat.lt_of_lt_of_le (D4.out.apart ad e).2.1 z5) (fun ad e hg => by have q1 := GL.out _ hg; have q2 := (D4.out.apart ad e).1; omega) m6); have E5 := Go.Lib.hid (D5.out.ins.moved (fun ad e => (D5.out.apart ad e).2.1) (fun ad e hg => by have q1 := GL.out _ hg; have q2 := (D5.out.apart ad e).1; omega) m6); have E6 := Go.Lib.hid d6.ins; clear r6 n6 m6 d6; dsimp only)
          | (go_at_call_of 14 (Value.pointer (some ad)); refine (K.tick H4.out.l.rep (f + s) (X2, O2, g2) Q2.out).mono ?_; rintro e w5 ⟨F5, A5, c5, rfl, d5, r5, n5, m5⟩; have H5 := Go.Lib.hid (H4.out.turnL r5 n5 m5); have D5 := Go.Lib.hid d5; have E4 := Go.Lib.hid (D4.out.keep m5); have z5 := m5.size; clear r5 n5 m5 d5; dsimp only))
        have R2 := (K.right H0.out.l.rep).size
        have l1 := due_bound Q1.out R2
        have R1 := (K.right H4.out.l.rep).size
        have l2 := due_bound Q2.out R1
        have h41 : O1.length ≤ c4 := E4.out.len
        have h42 := E4.out.cap
        have h51 : O2.length ≤ c5 := E5.out.len
        have h52 := E5.out.cap
        have hn4 := E4.out.nil
        have hn5 := E5.out.nil
        go_wp2_with (first
          | (at_builtin; refine wpList_append_rdK rfl _ _ 37 rfl w6.heap.size 3 i0 _ 1 8 Try.underlying37 hi hz0 hz1 hz2 rfl (by omega) (.slice A7 O1.length c7) O1.length (O1.map (fun n => Value.int .i64 n)) rfl HO7.out A5 O2.length c5 (O2.map (fun n => Value.int .i64 n)) rfl (by simp) (fun h => ⟨hn5 h, by have := hn5 h; omega⟩) (E5.out.keep y7).rd (int_one _ _) (by unfold maxLen; omega) (by omega) y7.size ?_; intro v8 w8 ho8 hg8 hat8; obtain ⟨A8, c8, rfl⟩ := own_slice ho8; have y8 := y7.trans (grownI hg8 (fun g e => by rw [ownBlock_blk] at e; exact own_geI HO7.out g e) y7.size); have E8 : Hid (InsAt .i64 w8 O3 A8 c8) := Go.Lib.hid (InsAt.ofOwn (n := O1.length + O2.length) (by rw [← HT.out, List.length_append]) (by rw [← HT.out, List.map_append]; exact ho8)); have H8 := Go.Lib.hid (H6.out.call y8); have E9 := Go.Lib.hid (E6.out.keep y8); clear ho8 hg8 hat8; dsimp only)
          | (at_builtin; refine wpList_copy_rdK rfl _ _ 37 rfl 3 i0 _ 1 8 Try.underlying37 hi hz0 hz1 hz2 rfl (by omega) rfl A4 O1.length c4 (O1.map (fun n => Value.int .i64 n)) rfl (by simp) (fun e => ⟨hn4 e, by have := hn4 e; omega⟩) E4.out.rd (int_one _ _) (by unfold maxLen; omega) (by omega) ?_; intro v7 w7 ho7 y7; obtain ⟨A7, c7, rfl⟩ := own_slice ho7; have HO7 := Go.Lib.hid ho7; clear ho7; dsimp only)
          | (go_at_call 15; refine (rsame11 O3 A8 c8 A6 c6 (O1.length + O2.length) O3.length (by rw [← HT.out, List.length_append]) rfl w8 E8.out E9.out).mono ?_; rintro e w9 ⟨rfl, y9⟩; have H9 := Go.Lib.hid (H8.out.call y9); dsimp only)
          | (go_at_call_of 18 (Value.pointer (some ad2)); refine (K.waits H10.out.r.rep (X2.list.length : Int) rfl).mono ?_; rintro e w11 ⟨rfl, y11⟩; have H11 := Go.Lib.hid (H10.out.call y11); dsimp only)
          | (go_at_call_of 18 (Value.pointer (some ad)); refine (K.waits H9.out.l.rep (X2.list.length : Int) rfl).mono ?_; rintro e w10 ⟨rfl, y10⟩; have H10 := Go.Lib.hid (H9.out.call y10); dsimp only))
        go_ret
        exact ⟨rfl, H11.out.l.below⟩
end Go.Proofs.Ytebmomanpkmloaa
