/- RouteMore, from the contracts. -/
import Derived.Test.YtalmknbcfgndkaaRouteC
import Derived.Test.YtalmknbcfgndkaaAppK
import Derived.Deep.RegionHeld3
namespace Go.Proofs.Ytalmknbcfgndkaa
open Go.ChangeShapes Go.WideShapes Go.ChangeAt Go.RowKit
set_option linter.unusedVariables false
set_option linter.unusedSimpArgs false

/-- one is put among the others. -/
def amongR (T : List Rt) (p : Nat) (x : Rt) : List Rt := T.take p ++ [x] ++ T.drop p
theorem among_perm (T : List Rt) (p : Nat) (x : Rt) : (amongR T p x).Perm (T ++ [x]) := by
  unfold amongR
  have h : (T.take p ++ [x] ++ T.drop p).Perm ([x] ++ (T.take p ++ T.drop p)) := by
    rw [List.append_assoc]
    exact List.perm_middle
  rw [List.take_append_drop] at h
  exact h.trans List.perm_append_comm
/-- while routes are turned. -/
structure TurnI (w : World) (L : List Rt) (i : Nat) (T : List Rt) (B : Option Addr) (d : Nat) (wr : World) : Prop where
  own : OwR w.heap.size 26 4 B i d (T.flatMap Rt.L) wr
  len : T.length = i
  perm : T.Perm (L.take i)
  below : Below w.heap.size w wr
set_option maxRecDepth 100000 in
set_option maxHeartbeats 16000000 in
theorem routeMore (kA0 : AwakeC13) (kI0 : InC13) (kR0 : RightC13) (kF0 : FindC13) (L : List Rt) (A : Option Addr) (c : Nat) (by_ : Int) (more : Rt) (addr : Int) (hby : 0 ≤ by_ ∧ by_ ≤ 255) (hmore : RngRt more) (ha : U32 addr) (w : World) (h : RtsAt w L A c) :
    Calls Try.prog 5 #[.slice A L.length c, .int .u8 by_, rtV more, .int .u32 addr] w fun e w' => e = .returned (.bool true) ∧ Below w.heap.size w w' := by
  have kA := Go.Lib.hid kA0
  have kI := Go.Lib.hid kI0
  have kR := Go.Lib.hid kR0
  have kF := Go.Lib.hid kF0
  have HL := Go.Lib.hid h
  have UA := Go.Lib.hid ha
  have UM := Go.Lib.hid hmore
  have hlc := h.len
  have hcc := h.cap
  have y0 : Below w.heap.size w (w.alloc (oRt more)) := (Below.refl _ _).alloc (Nat.le_refl _) _
  have hb0 := Bxo.made w 26 (rtL more)
  clear h ha hmore kA0 kI0 kR0 kF0
  go_enter Try.func5, Try.ntmps5
  go_upto_region 1 with fail
  generalize w.alloc (oRt more) = w0 at *
  have HM0 := Go.Lib.hid (show Bxo w0 w.heap.size 26 (rtL more) from hb0)
  clear hb0
  by_cases h60 : 60 < L.length
  · have t60 : (60 : Int) < (L.length : Int) := by omega
    go_wp2_with (go_at_call 7; refine (kA.out _).mono ?_; rintro e w1 ⟨rfl, y1⟩; have x1 := y0.trans (y1.mono y0.size); dsimp only)
    go_ret
    exact ⟨rfl, x1⟩
  have t60 : ¬ (60 : Int) < (L.length : Int) := by omega
  obtain ⟨b, hb⟩ : ∃ q, rightR L = q := ⟨_, rfl⟩
  have HB := Go.Lib.hid hb
  cases b
  · clear hb
    go_wp2_with (first
      | (go_at_call 7; refine (kA.out _).mono ?_; rintro e w1 ⟨rfl, y1⟩; have x1 := y0.trans (y1.mono y0.size); have HL1 := Go.Lib.hid (HL.out.at x1); dsimp only)
      | (go_at_call 10; refine (kR.out L A c _ rfl (by omega) w1 HL1.out _ HB.out).mono ?_; rintro e w2 ⟨rfl, y2⟩; have x2 := x1.trans (y2.mono x1.size); dsimp only))
    go_ret
    exact ⟨rfl, x2⟩
  have HRR := Go.Lib.hid ((rightR_iff L).1 hb)
  clear hb
  go_wp2_with (first
    | (go_at_call 7; refine (kA.out _).mono ?_; rintro e w1 ⟨rfl, y1⟩; have x1 := y0.trans (y1.mono y0.size); have HL1 := Go.Lib.hid (HL.out.at x1); have HM1 := Go.Lib.hid (HM0.out.keep y1 HM0.out.lt); dsimp only)
    | (go_at_call 10; refine (kR.out L A c _ rfl (by omega) w1 HL1.out _ HB.out).mono ?_; rintro e w2 ⟨rfl, y2⟩; have x2 := x1.trans (y2.mono x1.size); have HM2 := Go.Lib.hid (HM1.out.keep y2 HM1.out.lt); dsimp only))
  have hm2 := HM2.out.lt
  go_loopw [9, 10] (fun tv iv wr => ∃ (i : Nat) (T : List Rt) (B : Option Addr) (d : Nat), tv = .slice B i d ∧ iv = .int .i64 i ∧ i ≤ L.length ∧ Hid (TurnI w2 L i T B d wr)) (fun _ iv _ => L.length - (intOf iv).toNat)
  case atStart => exact ⟨0, [], none, 0, rfl, rfl, by omega, Go.Lib.hid ⟨⟨own_none _ _ _ _⟩, rfl, List.Perm.refl _, Below.refl _ _⟩⟩
  case round =>
    rename World => wi
    obtain ⟨i, T, B, d, rfl, rfl, hi, HI⟩ := hrel
    have i0 : (0 : Int) ≤ (i : Int) := by omega
    have xi := x2.trans (HI.out.below.mono x2.size)
    by_cases hil : i < L.length
    · have t1 : (i : Int) < (L.length : Int) := by omega
      obtain ⟨ld, rfl, hce⟩ := HL.out.cell hil
      obtain ⟨x, hx⟩ : ∃ x, L[i] = x := ⟨_, rfl⟩
      have HX : Hid (L.take (i + 1) = L.take i ++ [x]) := Go.Lib.hid (by rw [← hx]; exact (List.take_append_getElem hil).symm)
      rw [hx] at hce
      have HXE : Hid (∀ Y, Below wi.heap.size wi Y → ∀ j v, (rtL x)[j]? = some v → Y.cell? ((ld.add (i * 4)).add j) = some v) := Go.Lib.hid (fun Y y => hce Y (xi.trans (y.mono xi.size)))
      obtain ⟨p, hp⟩ : ∃ p : Nat, by_ % ((i : Int) + 1) = (p : Int) := by
        have h1 := Int.emod_nonneg by_ (show (i : Int) + 1 ≠ 0 by omega)
        exact ⟨(by_ % ((i : Int) + 1)).toNat, by omega⟩
      have hpi : p ≤ i := by
        have h2 := Int.emod_lt_of_pos by_ (show 0 < (i : Int) + 1 by omega)
        omega
      have e1 : IntKind.i64.wrap by_ = by_ := IntWalk.i64_in _ (by omega)
      have e2 : IntKind.i64.wrap ((i : Int) + 1) = (i : Int) + 1 := IntWalk.i64_in _ (by omega)
      have e3 : Int.tmod by_ ((i : Int) + 1) = (p : Int) := by rw [Int.tmod_eq_emod_of_nonneg hby.1, hp]
      have e4 : ¬ (i : Int) + 1 = 0 := by omega
      have hdc := (own_cap HI.out.own.own).1
      have p0 : (0 : Int) ≤ (p : Int) := by omega
      have p1 : (p : Int) ≤ (d : Int) := by omega
      have p2 : (p : Int) ≤ (i : Int) := by omega
      clear hce hx hp
      go_upto_region 10 with fail
      clear e1 e2 e3 e4
      obtain ⟨i0_, hi_, hz0, hz1, hz2⟩ := info_parts info_rtz
      have HTR : Hid (∀ Y, Below wi.heap.size wi Y → RdC Y B ((T.take p).flatMap Rt.L)) := Go.Lib.hid (fun Y y => by rw [← flat_take Rt.L 4 Rt.len]; exact (HI.out.own.rd.keep y).take _)
      have HTL : Hid (((T.take p).flatMap Rt.L).length = p * 4) := Go.Lib.hid (by rw [flat_len Rt.L 4 Rt.len, List.length_take, HI.out.len, Nat.min_eq_left hpi])
      have HTN : Hid (B = none → d = 0 ∧ p = 0) := Go.Lib.hid (fun e => by
        rcases own_addr HI.out.own.own with ⟨_, h1, h2⟩ | ⟨g, e', _⟩
        · exact ⟨h2, by omega⟩
        · rw [e] at e'; cases e')
      have HDL : Hid (((T.drop p).flatMap Rt.L).length = (i - p) * 4) := Go.Lib.hid (by rw [flat_len Rt.L 4 Rt.len, List.length_drop, HI.out.len])
      have HDR : Hid (∀ Y, Below wi.heap.size wi Y → ∀ A', A' = (if d = p then B else B.map (fun a => a.add (p * 4))) → RdC Y A' ((T.drop p).flatMap Rt.L)) := Go.Lib.hid (fun Y y A' e => by
        by_cases hdp : d = p
        · have : T.drop p = [] := List.drop_eq_nil_of_le (by rw [HI.out.len]; omega)
          rw [this]
          exact .inl rfl
        · rw [if_neg hdp] at e
          rw [← flat_drop Rt.L 4 Rt.len]
          exact (HI.out.own.rd.keep y).drop _ (fun ad e' => by rw [e, e']; rfl))
      have HDN : Hid (∀ A', A' = (if d = p then B else B.map (fun a => a.add (p * 4))) → A' = none → d - p = 0 ∧ i - p = 0) := Go.Lib.hid (fun A' e e0 => by
        have hb : B = none ∨ d = p := by
          by_cases hdp : d = p
          · exact .inr hdp
          · rw [if_neg hdp, e0] at e
            cases hB : B with
            | none => exact .inl rfl
            | some b => rw [hB] at e; cases e
        rcases hb with hb | hb
        · have := HTN.out hb; omega
        · omega)
      have HTLN : Hid ((amongR T p x).length = i + 1) := Go.Lib.hid (by rw [(among_perm T p x).length_eq, List.length_append, HI.out.len]; rfl)
      have HTP : Hid ((amongR T p x).Perm (L.take (i + 1))) := Go.Lib.hid (by rw [HX.out]; exact (among_perm T p x).trans (HI.out.perm.append_right _))
      try simp only [Act.put, List.setIfInBounds_toArray, List.set_cons_zero, List.set_cons_succ]
      refine wp_region_held_drew (S := fun Y => Below wi.heap.size wi Y) (by kernel_rfl) ?_ (fun hHeld => ?_)
      · exact below_drew (Below.refl _ _)
      refine wpAnyH_take (i := 1) (oi := ⟨some 41, _, _, _, _, _⟩) (v := ?_) rfl (by kernel_rfl) (by kernel_rfl) (by kernel_rfl) (fun _ _ _ h => h) (Or.inl ⟨by rfl, ?_⟩) (by assumption) ?_
      rotate_left
      · intro w hSw; (try dsimp only at hSw); go_simp; (try with_reducible rfl)
      try simp only [Act.put, List.setIfInBounds_toArray, List.set_cons_zero, List.set_cons_succ]
      refine wpAnyH_take (i := 2) (oi := ⟨some 42, _, _, _, _, _⟩) (v := ?_) rfl (by kernel_rfl) (by kernel_rfl) (by kernel_rfl) (fun _ _ _ h => h) (Or.inl ⟨by rfl, ?_⟩) (by assumption) ?_
      rotate_left
      · intro w hSw; (try dsimp only at hSw); go_simp; (try with_reducible rfl)
      try simp only [Act.put, List.setIfInBounds_toArray, List.set_cons_zero, List.set_cons_succ]
      refine wpAnyH_take (i := 3) (oi := ⟨some 43, _, _, _, _, _⟩) (v := ?_) rfl (by kernel_rfl) (by kernel_rfl) (by kernel_rfl) (fun _ _ _ h => h) (Or.inl ⟨by rfl, ?_⟩) (by assumption) ?_
      rotate_left
      · intro w hSw; (try dsimp only at hSw); go_simp; (try with_reducible rfl)
      try simp only [Act.put, List.setIfInBounds_toArray, List.set_cons_zero, List.set_cons_succ]
      refine wpAnyH_take (i := 5) (oi := ⟨some 45, _, _, _, _, _⟩) (v := ?_) rfl (by kernel_rfl) (by kernel_rfl) (by kernel_rfl) (fun _ _ _ h => h) (Or.inl ⟨by rfl, ?_⟩) (by assumption) ?_
      rotate_left
      · intro w hSw; (try dsimp only at hSw); go_simp; (try with_reducible rfl)
      try simp only [Act.put, List.setIfInBounds_toArray, List.set_cons_zero, List.set_cons_succ]
      refine wpAnyH_take (i := 6) (oi := ⟨some 46, _, _, _, _, _⟩) (v := ?_) rfl (by kernel_rfl) (by kernel_rfl) (by kernel_rfl) (fun _ _ _ h => h) (Or.inl ⟨by rfl, ?_⟩) (by assumption) ?_
      rotate_left
      · intro w hSw; (try dsimp only at hSw); go_simp; (try with_reducible rfl)
      try simp only [Act.put, List.setIfInBounds_toArray, List.set_cons_zero, List.set_cons_succ]
      refine wpAnyH_take (i := 7) (oi := ⟨some 47, _, _, _, _, _⟩) (v := ?_) rfl (by kernel_rfl) (by kernel_rfl) (by kernel_rfl) (fun _ _ _ h => h) (Or.inl ⟨by rfl, ?_⟩) (by assumption) ?_
      rotate_left
      · intro w hSw; (try dsimp only at hSw); go_simp; (try with_reducible rfl)
      try simp only [Act.put, List.setIfInBounds_toArray, List.set_cons_zero, List.set_cons_succ]
      refine wpAnyH_take (i := 8) (oi := ⟨some 48, _, _, _, _, _⟩) (v := (rtV x)) rfl (by kernel_rfl) (by kernel_rfl) (by kernel_rfl) (fun _ _ _ h => h) (yieldsIf_load_at (by rfl) 26 _ rfl (ld.add (i * 4)) rfl (rtL x) _ (fun Y h => HXE.out Y h) Try.underlying26 rfl info_rt) (by assumption) ?_
      try simp only [Act.put, List.setIfInBounds_toArray, List.set_cons_zero, List.set_cons_succ]
      refine wpAnyH_take (i := 11) (oi := ⟨some 51, _, _, _, _, _⟩) (v := ?_) rfl (by kernel_rfl) (by kernel_rfl) (by kernel_rfl) (fun _ _ _ h => h) (Or.inl ⟨by rfl, ?_⟩) (by assumption) ?_
      rotate_left
      · intro w hSw; (try dsimp only at hSw); go_simp; (try with_reducible rfl)
      try simp only [Act.put, List.setIfInBounds_toArray, List.set_cons_zero, List.set_cons_succ]
      refine wpAnyH_take (i := 12) (oi := ⟨some 52, _, _, _, _, _⟩) (v := ?_) rfl (by kernel_rfl) (by kernel_rfl) (by kernel_rfl) (fun _ _ _ h => h) (Or.inl ⟨by rfl, ?_⟩) (by assumption) ?_
      rotate_left
      · intro w hSw; (try dsimp only at hSw); go_simp; (try with_reducible rfl)
      try simp only [Act.put, List.setIfInBounds_toArray, List.set_cons_zero, List.set_cons_succ]
      refine wpAnyH_take (i := 13) (oi := ⟨some 53, _, _, _, _, _⟩) (v := ?_) rfl (by kernel_rfl) (by kernel_rfl) (by kernel_rfl) (fun _ _ _ h => h) (Or.inl ⟨by rfl, ?_⟩) (by assumption) ?_
      rotate_left
      · intro w hSw; (try dsimp only at hSw); go_simp; (try with_reducible rfl)
      try simp only [Act.put, List.setIfInBounds_toArray, List.set_cons_zero, List.set_cons_succ]
      refine wpAnyH_ready (rs := [0, 9]) (by kernel_rfl) (by simp) (AllReadyH.cons (o := ⟨some 40, _, _, _, _, _⟩) rfl (fun Kc hKc => ?_) (AllReadyH.cons (o := ⟨some 49, _, _, _, _, _⟩) rfl (fun Kc hKc => ?_) AllReadyH.nil))
      ·
        go_simp
        have yA : Below wi.heap.size wi ((wi.alloc (.cells #[] 26)).drew) := below_drew ((Below.refl _ _).alloc (Nat.le_refl _) _); have HE := Go.Lib.hid (OwR.drew (OwR.made wi wi.heap.size 26 4 (show wi.heap.size ≤ wi.heap.size from hHeld.size))); have YA : Hid (Below wi.heap.size wi ((wi.alloc (.cells #[] 26)).drew)) := Go.Lib.hid (yA); generalize (wi.alloc (.cells #[] 26)).drew = wA at *
        refine hKc.out _ _ (YA.out) (fun hHeld => ?_)
        clear hKc Kc
        try simp only [Act.put, List.setIfInBounds_toArray, List.set_cons_zero, List.set_cons_succ]
        refine wpAnyH_ready (rs := [4, 9]) (by kernel_rfl) (by simp) (AllReadyH.cons (o := ⟨some 44, _, _, _, _, _⟩) rfl (fun Kc hKc => ?_) (AllReadyH.cons (o := ⟨some 49, _, _, _, _, _⟩) rfl (fun Kc hKc => ?_) AllReadyH.nil))
        ·
          rw [if_pos (by rfl)]
          refine step_append_rdK _ _ 22 rfl wi.heap.size 26 i0_ _ 4 32 Try.underlying22 hi_ hz0 hz1 hz2 rfl (by omega) (.slice (some ⟨wi.heap.size, 0, none⟩) 0 0) 0 [] rfl HE.out.own B p d ((T.take p).flatMap Rt.L) rfl HTL.out HTN.out (HTR.out _ hHeld) (rt_one _) (by unfold maxLen; omega) (by omega) hHeld.size ?_; intro v4 w4 ho4 hg4 hat4; rw [Nat.zero_add, List.nil_append] at ho4; obtain ⟨A4, c4, rfl⟩ := own_slice ho4; rw [ownBlock_blk] at hg4; have H4 : Hid (OwR wi.heap.size 26 4 A4 p c4 ((T.take p).flatMap Rt.L) w4) := Go.Lib.hid ⟨ho4⟩; have y4 := grownW hg4 HE.out.ge hHeld.size; clear ho4 hg4 hat4
          refine hKc.out _ _ (hHeld.trans y4) (fun hHeld => ?_)
          clear hKc Kc
          try simp only [Act.put, List.setIfInBounds_toArray, List.set_cons_zero, List.set_cons_succ]
          refine wpAnyH_ready (rs := [9]) (by kernel_rfl) (by simp) (AllReadyH.cons (o := ⟨some 49, _, _, _, _, _⟩) rfl (fun Kc hKc => ?_) AllReadyH.nil)
          go_simp
          have yB : Below w4.heap.size w4 (w4.alloc (.cells #[.int .u32 x.net, .int .i64 x.bits, .int .i64 x.zone, .int .i64 x.mtu] 26)) := (Below.refl _ _).alloc (Nat.le_refl _) _; have HV := Go.Lib.hid (show Bxo (w4.alloc (.cells #[.int .u32 x.net, .int .i64 x.bits, .int .i64 x.zone, .int .i64 x.mtu] 26)) w4.heap.size 26 (rtL x) from Bxo.made w4 26 (rtL x)); have H4 := Go.Lib.hid (H4.out.at yB); have YB : Hid (Below wi.heap.size wi (w4.alloc (.cells #[.int .u32 x.net, .int .i64 x.bits, .int .i64 x.zone, .int .i64 x.mtu] 26))) := Go.Lib.hid (hHeld.trans (yB.mono hHeld.size)); generalize w4.alloc (.cells #[.int .u32 x.net, .int .i64 x.bits, .int .i64 x.zone, .int .i64 x.mtu] 26) = wB at *
          refine hKc.out _ _ (YB.out) (fun hHeld => ?_)
          clear hKc Kc
          try simp only [Act.put, List.setIfInBounds_toArray, List.set_cons_zero, List.set_cons_succ]
          refine wpAnyH_ready (rs := [10]) (by kernel_rfl) (by simp) (AllReadyH.cons (o := ⟨some 50, _, _, _, _, _⟩) rfl (fun Kc hKc => ?_) AllReadyH.nil)
          rw [if_pos (by rfl)]
          refine step_append_rdK _ _ 22 rfl wi.heap.size 26 i0_ _ 4 32 Try.underlying22 hi_ hz0 hz1 hz2 rfl (by omega) (.slice A4 p c4) p ((T.take p).flatMap Rt.L) rfl H4.out.own (some ⟨w4.heap.size, 0, none⟩) 1 1 (rtL x) rfl rfl (fun e => by cases e) (.inr ⟨_, rfl, HV.out.at⟩) (by simp [Value.oneCell']) (by unfold maxLen; omega) (by omega) hHeld.size ?_; intro v5 w5 ho5 hg5 hat5; obtain ⟨A5, c5, rfl⟩ := own_slice ho5; rw [ownBlock_blk] at hg5; have H5 : Hid (OwR wi.heap.size 26 4 A5 (p + 1) c5 ((T.take p).flatMap Rt.L ++ rtL x) w5) := Go.Lib.hid ⟨ho5⟩; have y5 := grownW hg5 H4.out.ge hHeld.size; clear ho5 hg5 hat5
          refine hKc.out _ _ (hHeld.trans y5) (fun hHeld => ?_)
          clear hKc Kc
          try simp only [Act.put, List.setIfInBounds_toArray, List.set_cons_zero, List.set_cons_succ]
          refine wpAnyH_ready (rs := [14]) (by kernel_rfl) (by simp) (AllReadyH.cons (o := ⟨some 54, _, _, _, _, _⟩) rfl (fun Kc hKc => ?_) AllReadyH.nil)
          rw [if_pos (by rfl)]
          refine step_append_rdK _ _ 22 rfl wi.heap.size 26 i0_ _ 4 32 Try.underlying22 hi_ hz0 hz1 hz2 rfl (by omega) (.slice A5 (p + 1) c5) (p + 1) ((T.take p).flatMap Rt.L ++ rtL x) rfl H5.out.own _ (i - p) (d - p) ((T.drop p).flatMap Rt.L) rfl HDL.out (HDN.out _ rfl) (HDR.out _ hHeld _ rfl) (rt_one _) (by unfold maxLen; omega) (by omega) hHeld.size ?_; intro v6 w6 ho6 hg6 hat6; rw [show p + 1 + (i - p) = i + 1 by omega] at ho6; obtain ⟨A6, c6, rfl⟩ := own_slice ho6; rw [ownBlock_blk] at hg6; have H6 : Hid (OwR wi.heap.size 26 4 A6 (i + 1) c6 ((T.take p).flatMap Rt.L ++ rtL x ++ (T.drop p).flatMap Rt.L) w6) := Go.Lib.hid ⟨ho6⟩; have y6 := grownW hg6 H5.out.ge hHeld.size; clear ho6 hg6 hat6
          refine hKc.out _ _ (hHeld.trans y6) (fun hHeld => ?_)
          clear hKc Kc
          try simp only [Act.put, List.setIfInBounds_toArray, List.set_cons_zero, List.set_cons_succ]
          refine wpAnyH_take (i := 15) (oi := ⟨some 9, _, _, _, _, _⟩) (v := ?_) rfl (by kernel_rfl) (by kernel_rfl) (by kernel_rfl) (fun _ _ _ h => h) (Or.inl ⟨by rfl, ?_⟩) (by assumption) ?_
          rotate_left
          · intro w hSw; (try dsimp only at hSw); go_simp; (try with_reducible rfl)
          try simp only [Act.put, List.setIfInBounds_toArray, List.set_cons_zero, List.set_cons_succ]
          refine wpAnyH_done (by kernel_rfl) ?_ _
          have yq := hHeld
          clear hHeld
          go_wp2
          go_round
          case rel => exact ⟨i + 1, amongR T p x, A6, c6, rfl, by go_num, by omega, Go.Lib.hid ⟨⟨own_base (by unfold amongR; rw [List.flatMap_append, List.flatMap_append]; simpa [Rt.L] using H6.out.own) HI.out.below.size⟩, HTLN.out, HTP.out, HI.out.below.trans (yq.mono HI.out.below.size)⟩⟩
          case measure => simp [intOf]; omega
        ·
          go_simp
          have yB : Below wA.heap.size wA (wA.alloc (.cells #[.int .u32 x.net, .int .i64 x.bits, .int .i64 x.zone, .int .i64 x.mtu] 26)) := (Below.refl _ _).alloc (Nat.le_refl _) _; have HV := Go.Lib.hid (show Bxo (wA.alloc (.cells #[.int .u32 x.net, .int .i64 x.bits, .int .i64 x.zone, .int .i64 x.mtu] 26)) wA.heap.size 26 (rtL x) from Bxo.made wA 26 (rtL x)); have HNE : Hid (wi.heap.size ≠ wA.heap.size) := Go.Lib.hid (by have := HE.out.lt _ rfl; show wi.heap.size ≠ _; have q : wi.heap.size < wA.heap.size := this; omega); have HE := Go.Lib.hid (HE.out.at yB); have YB : Hid (Below wi.heap.size wi (wA.alloc (.cells #[.int .u32 x.net, .int .i64 x.bits, .int .i64 x.zone, .int .i64 x.mtu] 26))) := Go.Lib.hid (hHeld.trans (yB.mono hHeld.size)); generalize wA.alloc (.cells #[.int .u32 x.net, .int .i64 x.bits, .int .i64 x.zone, .int .i64 x.mtu] 26) = wB at *
          refine hKc.out _ _ (YB.out) (fun hHeld => ?_)
          clear hKc Kc
          try simp only [Act.put, List.setIfInBounds_toArray, List.set_cons_zero, List.set_cons_succ]
          refine wpAnyH_ready (rs := [4]) (by kernel_rfl) (by simp) (AllReadyH.cons (o := ⟨some 44, _, _, _, _, _⟩) rfl (fun Kc hKc => ?_) AllReadyH.nil)
          rw [if_pos (by rfl)]
          refine step_append_rdK _ _ 22 rfl wi.heap.size 26 i0_ _ 4 32 Try.underlying22 hi_ hz0 hz1 hz2 rfl (by omega) (.slice (some ⟨wi.heap.size, 0, none⟩) 0 0) 0 [] rfl HE.out.own B p d ((T.take p).flatMap Rt.L) rfl HTL.out HTN.out (HTR.out _ hHeld) (rt_one _) (by unfold maxLen; omega) (by omega) hHeld.size ?_; intro v4 w4 ho4 hg4 hat4; rw [Nat.zero_add, List.nil_append] at ho4; obtain ⟨A4, c4, rfl⟩ := own_slice ho4; rw [ownBlock_blk] at hg4; have H4 : Hid (OwR wi.heap.size 26 4 A4 p c4 ((T.take p).flatMap Rt.L) w4) := Go.Lib.hid ⟨ho4⟩; have y4 := grownW hg4 HE.out.ge hHeld.size; have HV := Go.Lib.hid (show Bxo w4 wA.heap.size 26 (rtL x) from (hg4.block _ HV.out.lt (fun e => HNE.out (by injection e with e; exact e.symm))).trans HV.out); clear ho4 hg4 hat4
          refine hKc.out _ _ (hHeld.trans y4) (fun hHeld => ?_)
          clear hKc Kc
          try simp only [Act.put, List.setIfInBounds_toArray, List.set_cons_zero, List.set_cons_succ]
          refine wpAnyH_ready (rs := [10]) (by kernel_rfl) (by simp) (AllReadyH.cons (o := ⟨some 50, _, _, _, _, _⟩) rfl (fun Kc hKc => ?_) AllReadyH.nil)
          rw [if_pos (by rfl)]
          refine step_append_rdK _ _ 22 rfl wi.heap.size 26 i0_ _ 4 32 Try.underlying22 hi_ hz0 hz1 hz2 rfl (by omega) (.slice A4 p c4) p ((T.take p).flatMap Rt.L) rfl H4.out.own (some ⟨wA.heap.size, 0, none⟩) 1 1 (rtL x) rfl rfl (fun e => by cases e) (.inr ⟨_, rfl, HV.out.at⟩) (by simp [Value.oneCell']) (by unfold maxLen; omega) (by omega) hHeld.size ?_; intro v5 w5 ho5 hg5 hat5; obtain ⟨A5, c5, rfl⟩ := own_slice ho5; rw [ownBlock_blk] at hg5; have H5 : Hid (OwR wi.heap.size 26 4 A5 (p + 1) c5 ((T.take p).flatMap Rt.L ++ rtL x) w5) := Go.Lib.hid ⟨ho5⟩; have y5 := grownW hg5 H4.out.ge hHeld.size; clear ho5 hg5 hat5
          refine hKc.out _ _ (hHeld.trans y5) (fun hHeld => ?_)
          clear hKc Kc
          try simp only [Act.put, List.setIfInBounds_toArray, List.set_cons_zero, List.set_cons_succ]
          refine wpAnyH_ready (rs := [14]) (by kernel_rfl) (by simp) (AllReadyH.cons (o := ⟨some 54, _, _, _, _, _⟩) rfl (fun Kc hKc => ?_) AllReadyH.nil)
          rw [if_pos (by rfl)]
          refine step_append_rdK _ _ 22 rfl wi.heap.size 26 i0_ _ 4 32 Try.underlying22 hi_ hz0 hz1 hz2 rfl (by omega) (.slice A5 (p + 1) c5) (p + 1) ((T.take p).flatMap Rt.L ++ rtL x) rfl H5.out.own _ (i - p) (d - p) ((T.drop p).flatMap Rt.L) rfl HDL.out (HDN.out _ rfl) (HDR.out _ hHeld _ rfl) (rt_one _) (by unfold maxLen; omega) (by omega) hHeld.size ?_; intro v6 w6 ho6 hg6 hat6; rw [show p + 1 + (i - p) = i + 1 by omega] at ho6; obtain ⟨A6, c6, rfl⟩ := own_slice ho6; rw [ownBlock_blk] at hg6; have H6 : Hid (OwR wi.heap.size 26 4 A6 (i + 1) c6 ((T.take p).flatMap Rt.L ++ rtL x ++ (T.drop p).flatMap Rt.L) w6) := Go.Lib.hid ⟨ho6⟩; have y6 := grownW hg6 H5.out.ge hHeld.size; clear ho6 hg6 hat6
          refine hKc.out _ _ (hHeld.trans y6) (fun hHeld => ?_)
          clear hKc Kc
          try simp only [Act.put, List.setIfInBounds_toArray, List.set_cons_zero, List.set_cons_succ]
          refine wpAnyH_take (i := 15) (oi := ⟨some 9, _, _, _, _, _⟩) (v := ?_) rfl (by kernel_rfl) (by kernel_rfl) (by kernel_rfl) (fun _ _ _ h => h) (Or.inl ⟨by rfl, ?_⟩) (by assumption) ?_
          rotate_left
          · intro w hSw; (try dsimp only at hSw); go_simp; (try with_reducible rfl)
          try simp only [Act.put, List.setIfInBounds_toArray, List.set_cons_zero, List.set_cons_succ]
          refine wpAnyH_done (by kernel_rfl) ?_ _
          have yq := hHeld
          clear hHeld
          go_wp2
          go_round
          case rel => exact ⟨i + 1, amongR T p x, A6, c6, rfl, by go_num, by omega, Go.Lib.hid ⟨⟨own_base (by unfold amongR; rw [List.flatMap_append, List.flatMap_append]; simpa [Rt.L] using H6.out.own) HI.out.below.size⟩, HTLN.out, HTP.out, HI.out.below.trans (yq.mono HI.out.below.size)⟩⟩
          case measure => simp [intOf]; omega
      ·
        go_simp
        have yB : Below wi.heap.size wi ((wi.alloc (.cells #[.int .u32 x.net, .int .i64 x.bits, .int .i64 x.zone, .int .i64 x.mtu] 26)).drew) := below_drew ((Below.refl _ _).alloc (Nat.le_refl _) _); have HV := Go.Lib.hid (show Bxo ((wi.alloc (.cells #[.int .u32 x.net, .int .i64 x.bits, .int .i64 x.zone, .int .i64 x.mtu] 26)).drew) wi.heap.size 26 (rtL x) from Bxo.made wi 26 (rtL x)); have YB : Hid (Below wi.heap.size wi ((wi.alloc (.cells #[.int .u32 x.net, .int .i64 x.bits, .int .i64 x.zone, .int .i64 x.mtu] 26)).drew)) := Go.Lib.hid (yB); generalize (wi.alloc (.cells #[.int .u32 x.net, .int .i64 x.bits, .int .i64 x.zone, .int .i64 x.mtu] 26)).drew = wB at *
        refine hKc.out _ _ (YB.out) (fun hHeld => ?_)
        clear hKc Kc
        try simp only [Act.put, List.setIfInBounds_toArray, List.set_cons_zero, List.set_cons_succ]
        refine wpAnyH_ready (rs := [0]) (by kernel_rfl) (by simp) (AllReadyH.cons (o := ⟨some 40, _, _, _, _, _⟩) rfl (fun Kc hKc => ?_) AllReadyH.nil)
        go_simp
        have yA : Below wB.heap.size wB (wB.alloc (.cells #[] 26)) := (Below.refl _ _).alloc (Nat.le_refl _) _; have HE := Go.Lib.hid (OwR.made wB wi.heap.size 26 4 (show wi.heap.size ≤ wB.heap.size from hHeld.size)); have HNE : Hid (wB.heap.size ≠ wi.heap.size) := Go.Lib.hid (by have := HV.out.lt; omega); have HV := Go.Lib.hid (HV.out.keep yA HV.out.lt); have YA : Hid (Below wi.heap.size wi (wB.alloc (.cells #[] 26))) := Go.Lib.hid (hHeld.trans (yA.mono hHeld.size)); generalize wB.alloc (.cells #[] 26) = wA at *
        refine hKc.out _ _ (YA.out) (fun hHeld => ?_)
        clear hKc Kc
        try simp only [Act.put, List.setIfInBounds_toArray, List.set_cons_zero, List.set_cons_succ]
        refine wpAnyH_ready (rs := [4]) (by kernel_rfl) (by simp) (AllReadyH.cons (o := ⟨some 44, _, _, _, _, _⟩) rfl (fun Kc hKc => ?_) AllReadyH.nil)
        rw [if_pos (by rfl)]
        refine step_append_rdK _ _ 22 rfl wi.heap.size 26 i0_ _ 4 32 Try.underlying22 hi_ hz0 hz1 hz2 rfl (by omega) (.slice (some ⟨wB.heap.size, 0, none⟩) 0 0) 0 [] rfl HE.out.own B p d ((T.take p).flatMap Rt.L) rfl HTL.out HTN.out (HTR.out _ hHeld) (rt_one _) (by unfold maxLen; omega) (by omega) hHeld.size ?_; intro v4 w4 ho4 hg4 hat4; rw [Nat.zero_add, List.nil_append] at ho4; obtain ⟨A4, c4, rfl⟩ := own_slice ho4; rw [ownBlock_blk] at hg4; have H4 : Hid (OwR wi.heap.size 26 4 A4 p c4 ((T.take p).flatMap Rt.L) w4) := Go.Lib.hid ⟨ho4⟩; have y4 := grownW hg4 HE.out.ge hHeld.size; have HV := Go.Lib.hid (show Bxo w4 wi.heap.size 26 (rtL x) from (hg4.block _ HV.out.lt (fun e => HNE.out (by injection e with e; exact e.symm))).trans HV.out); clear ho4 hg4 hat4
        refine hKc.out _ _ (hHeld.trans y4) (fun hHeld => ?_)
        clear hKc Kc
        try simp only [Act.put, List.setIfInBounds_toArray, List.set_cons_zero, List.set_cons_succ]
        refine wpAnyH_ready (rs := [10]) (by kernel_rfl) (by simp) (AllReadyH.cons (o := ⟨some 50, _, _, _, _, _⟩) rfl (fun Kc hKc => ?_) AllReadyH.nil)
        rw [if_pos (by rfl)]
        refine step_append_rdK _ _ 22 rfl wi.heap.size 26 i0_ _ 4 32 Try.underlying22 hi_ hz0 hz1 hz2 rfl (by omega) (.slice A4 p c4) p ((T.take p).flatMap Rt.L) rfl H4.out.own (some ⟨wi.heap.size, 0, none⟩) 1 1 (rtL x) rfl rfl (fun e => by cases e) (.inr ⟨_, rfl, HV.out.at⟩) (by simp [Value.oneCell']) (by unfold maxLen; omega) (by omega) hHeld.size ?_; intro v5 w5 ho5 hg5 hat5; obtain ⟨A5, c5, rfl⟩ := own_slice ho5; rw [ownBlock_blk] at hg5; have H5 : Hid (OwR wi.heap.size 26 4 A5 (p + 1) c5 ((T.take p).flatMap Rt.L ++ rtL x) w5) := Go.Lib.hid ⟨ho5⟩; have y5 := grownW hg5 H4.out.ge hHeld.size; clear ho5 hg5 hat5
        refine hKc.out _ _ (hHeld.trans y5) (fun hHeld => ?_)
        clear hKc Kc
        try simp only [Act.put, List.setIfInBounds_toArray, List.set_cons_zero, List.set_cons_succ]
        refine wpAnyH_ready (rs := [14]) (by kernel_rfl) (by simp) (AllReadyH.cons (o := ⟨some 54, _, _, _, _, _⟩) rfl (fun Kc hKc => ?_) AllReadyH.nil)
        rw [if_pos (by rfl)]
        refine step_append_rdK _ _ 22 rfl wi.heap.size 26 i0_ _ 4 32 Try.underlying22 hi_ hz0 hz1 hz2 rfl (by omega) (.slice A5 (p + 1) c5) (p + 1) ((T.take p).flatMap Rt.L ++ rtL x) rfl H5.out.own _ (i - p) (d - p) ((T.drop p).flatMap Rt.L) rfl HDL.out (HDN.out _ rfl) (HDR.out _ hHeld _ rfl) (rt_one _) (by unfold maxLen; omega) (by omega) hHeld.size ?_; intro v6 w6 ho6 hg6 hat6; rw [show p + 1 + (i - p) = i + 1 by omega] at ho6; obtain ⟨A6, c6, rfl⟩ := own_slice ho6; rw [ownBlock_blk] at hg6; have H6 : Hid (OwR wi.heap.size 26 4 A6 (i + 1) c6 ((T.take p).flatMap Rt.L ++ rtL x ++ (T.drop p).flatMap Rt.L) w6) := Go.Lib.hid ⟨ho6⟩; have y6 := grownW hg6 H5.out.ge hHeld.size; clear ho6 hg6 hat6
        refine hKc.out _ _ (hHeld.trans y6) (fun hHeld => ?_)
        clear hKc Kc
        try simp only [Act.put, List.setIfInBounds_toArray, List.set_cons_zero, List.set_cons_succ]
        refine wpAnyH_take (i := 15) (oi := ⟨some 9, _, _, _, _, _⟩) (v := ?_) rfl (by kernel_rfl) (by kernel_rfl) (by kernel_rfl) (fun _ _ _ h => h) (Or.inl ⟨by rfl, ?_⟩) (by assumption) ?_
        rotate_left
        · intro w hSw; (try dsimp only at hSw); go_simp; (try with_reducible rfl)
        try simp only [Act.put, List.setIfInBounds_toArray, List.set_cons_zero, List.set_cons_succ]
        refine wpAnyH_done (by kernel_rfl) ?_ _
        have yq := hHeld
        clear hHeld
        go_wp2
        go_round
        case rel => exact ⟨i + 1, amongR T p x, A6, c6, rfl, by go_num, by omega, Go.Lib.hid ⟨⟨own_base (by unfold amongR; rw [List.flatMap_append, List.flatMap_append]; simpa [Rt.L] using H6.out.own) HI.out.below.size⟩, HTLN.out, HTP.out, HI.out.below.trans (yq.mono HI.out.below.size)⟩⟩
        case measure => simp [intOf]; omega
    · have t1 : ¬ (i : Int) < (L.length : Int) := by omega
      obtain rfl : i = L.length := by omega
      have hTL : T.Perm L := by have := HI.out.perm; rwa [List.take_length] at this
      have HTA : Hid (RtsAt wi T B d) := Go.Lib.hid (RtsAt.ofOwn HI.out.len HI.out.own.own (fun r hr => HL.out.rng r (hTL.mem_iff.1 hr)))
      obtain ⟨⟨r, o⟩, hf⟩ : ∃ q, findR L addr = q := ⟨_, rfl⟩
      have HFR := Go.Lib.hid hf
      have HFT : Hid (findR T addr = (r, o)) := Go.Lib.hid (by rw [find_permR HRR.out hTL, hf])
      have HTN := Go.Lib.hid HI.out.len
      have HLi := Go.Lib.hid (HL.out.at xi)
      have HMi := Go.Lib.hid (HM2.out.keep (HI.out.below) hm2)
      have er : ∀ W, (binOp .neq 26 (rtV r) (rtV r)).run Try.prog W = .ok (.bool false) W := fun W => by rw [neRt, (sameRt_iff r r).2 rfl]; rfl
      have eo : (o != o) = false := by simp
      clear hf hTL
      go_upto_region 12 with (go_at_call 8; refine (kF.out L A c L.length rfl (by omega) addr UA.out wi HLi.out _ HFR.out).mono ?_; rintro e w3 ⟨rfl, y3⟩; dsimp only)
      have x3 := xi.trans (y3.mono xi.size)
      have y4 := below_alloc y3 y3.size (oRt r)
      have x4 := below_alloc x3 x3.size (oRt r)
      have HT4 := Go.Lib.hid (HTA.out.at y4)
      have HM4 := Go.Lib.hid (HMi.out.keep y4 HMi.out.lt)
      have HG4 := Go.Lib.hid (Bxo.made w3 26 (rtL r))
      clear x3 y3 y4
      generalize w3.alloc (.cells (rtL r).toArray 26) = w4 at *
      generalize w3.heap.size = g12 at *
      go_upto_region 13 with (go_at_call 8; refine (kF.out T B d L.length HTN.out (by omega) addr UA.out w4 HT4.out _ HFT.out).mono ?_; rintro e w5 ⟨rfl, y5⟩; dsimp only)
      have x5 := x4.trans (y5.mono x4.size)
      have y6 := below_alloc y5 y5.size (oRt r)
      have x6 := below_alloc x5 x5.size (oRt r)
      have HM5 := Go.Lib.hid (HM4.out.keep y6 HM4.out.lt)
      have HG5 := Go.Lib.hid (HG4.out.keep y6 HG4.out.lt)
      have HH5 := Go.Lib.hid (Bxo.made w5 26 (rtL r))
      clear x5 y5 y6
      generalize w5.alloc (.cells (rtL r).toArray 26) = W5 at *
      generalize w5.heap.size = g14 at *
      have x5 := x6
      clear x6
      have HL5 := Go.Lib.hid (HL.out.at x5)
      go_upto_region 15 with (first
        | (refine wpList_load_box rfl 26 _ rfl g12 rfl (rtL r) _ HG5.out Try.underlying26 rfl info_rt ?_)
        | (refine wpList_load_box rfl 26 _ rfl g14 rfl (rtL r) _ HH5.out Try.underlying26 rfl info_rt ?_))
      obtain ⟨i0_, hi_, hz0, hz1, hz2⟩ := info_parts info_rtz
      have HLL : Hid ((L.flatMap Rt.L).length = L.length * 4) := Go.Lib.hid (flat_len Rt.L 4 Rt.len L)
      have HLN : Hid (A = none → c = 0 ∧ L.length = 0) := Go.Lib.hid (fun e => by have := HL.out.nil e; omega)
      try simp only [Act.put, List.setIfInBounds_toArray, List.set_cons_zero, List.set_cons_succ]
      refine wp_region_held_drew (S := fun Y => Below W5.heap.size W5 Y) (by kernel_rfl) ?_ (fun hHeld => ?_)
      · exact below_drew (Below.refl _ _)
      refine wpAnyH_take (i := 1) (oi := ⟨some 76, _, _, _, _, _⟩) (v := ?_) rfl (by kernel_rfl) (by kernel_rfl) (by kernel_rfl) (fun _ _ _ h => h) (Or.inl ⟨by rfl, ?_⟩) (by assumption) ?_
      rotate_left
      · intro w hSw; (try dsimp only at hSw); go_simp; (try with_reducible rfl)
      try simp only [Act.put, List.setIfInBounds_toArray, List.set_cons_zero, List.set_cons_succ]
      refine wpAnyH_take (i := 3) (oi := ⟨some 78, _, _, _, _, _⟩) (v := (rtV more)) rfl (by kernel_rfl) (by kernel_rfl) (by kernel_rfl) (fun _ _ _ h => h) (yieldsIf_load_at (by rfl) 26 _ rfl ⟨w.heap.size, 0, none⟩ rfl (rtL more) _ (fun Y h => (HM5.out.keep h HM5.out.lt).at) Try.underlying26 rfl info_rt) (by assumption) ?_
      try simp only [Act.put, List.setIfInBounds_toArray, List.set_cons_zero, List.set_cons_succ]
      refine wpAnyH_ready (rs := [0, 4]) (by kernel_rfl) (by simp) (AllReadyH.cons (o := ⟨some 75, _, _, _, _, _⟩) rfl (fun Kc hKc => ?_) (AllReadyH.cons (o := ⟨some 79, _, _, _, _, _⟩) rfl (fun Kc hKc => ?_) AllReadyH.nil))
      ·
        go_simp
        have yA : Below W5.heap.size W5 ((W5.alloc (.cells #[] 26)).drew) := below_drew ((Below.refl _ _).alloc (Nat.le_refl _) _); have HE := Go.Lib.hid (OwR.drew (OwR.made W5 W5.heap.size 26 4 (show W5.heap.size ≤ W5.heap.size from hHeld.size))); have YA : Hid (Below W5.heap.size W5 ((W5.alloc (.cells #[] 26)).drew)) := Go.Lib.hid (yA); generalize (W5.alloc (.cells #[] 26)).drew = wA at *
        refine hKc.out _ _ (YA.out) (fun hHeld => ?_)
        clear hKc Kc
        try simp only [Act.put, List.setIfInBounds_toArray, List.set_cons_zero, List.set_cons_succ]
        refine wpAnyH_ready (rs := [2, 4]) (by kernel_rfl) (by simp) (AllReadyH.cons (o := ⟨some 77, _, _, _, _, _⟩) rfl (fun Kc hKc => ?_) (AllReadyH.cons (o := ⟨some 79, _, _, _, _, _⟩) rfl (fun Kc hKc => ?_) AllReadyH.nil))
        ·
          rw [if_pos (by rfl)]
          refine step_append_rdK _ _ 22 rfl W5.heap.size 26 i0_ _ 4 32 Try.underlying22 hi_ hz0 hz1 hz2 rfl (by omega) (.slice (some ⟨W5.heap.size, 0, none⟩) 0 0) 0 [] rfl HE.out.own A L.length c (L.flatMap Rt.L) rfl HLL.out HLN.out (HL5.out.rd.keep hHeld) (rt_one _) (by unfold maxLen; omega) (by omega) hHeld.size ?_; intro v7 w7 ho7 hg7 hat7; rw [Nat.zero_add, List.nil_append] at ho7; obtain ⟨A7, c7, rfl⟩ := own_slice ho7; rw [ownBlock_blk] at hg7; have H7 : Hid (OwR W5.heap.size 26 4 A7 L.length c7 (L.flatMap Rt.L) w7) := Go.Lib.hid ⟨ho7⟩; have y7 := grownW hg7 HE.out.ge hHeld.size; clear ho7 hg7 hat7
          refine hKc.out _ _ (hHeld.trans y7) (fun hHeld => ?_)
          clear hKc Kc
          try simp only [Act.put, List.setIfInBounds_toArray, List.set_cons_zero, List.set_cons_succ]
          refine wpAnyH_ready (rs := [4]) (by kernel_rfl) (by simp) (AllReadyH.cons (o := ⟨some 79, _, _, _, _, _⟩) rfl (fun Kc hKc => ?_) AllReadyH.nil)
          go_simp
          have yB : Below w7.heap.size w7 (w7.alloc (.cells #[.int .u32 more.net, .int .i64 more.bits, .int .i64 more.zone, .int .i64 more.mtu] 26)) := (Below.refl _ _).alloc (Nat.le_refl _) _; have HV := Go.Lib.hid (show Bxo (w7.alloc (.cells #[.int .u32 more.net, .int .i64 more.bits, .int .i64 more.zone, .int .i64 more.mtu] 26)) w7.heap.size 26 (rtL more) from Bxo.made w7 26 (rtL more)); have H7 := Go.Lib.hid (H7.out.at yB); have YB : Hid (Below W5.heap.size W5 (w7.alloc (.cells #[.int .u32 more.net, .int .i64 more.bits, .int .i64 more.zone, .int .i64 more.mtu] 26))) := Go.Lib.hid (hHeld.trans (yB.mono hHeld.size)); generalize w7.alloc (.cells #[.int .u32 more.net, .int .i64 more.bits, .int .i64 more.zone, .int .i64 more.mtu] 26) = wB at *
          refine hKc.out _ _ (YB.out) (fun hHeld => ?_)
          clear hKc Kc
          try simp only [Act.put, List.setIfInBounds_toArray, List.set_cons_zero, List.set_cons_succ]
          refine wpAnyH_ready (rs := [5]) (by kernel_rfl) (by simp) (AllReadyH.cons (o := ⟨some 80, _, _, _, _, _⟩) rfl (fun Kc hKc => ?_) AllReadyH.nil)
          rw [if_pos (by rfl)]
          refine step_append_rdK _ _ 22 rfl W5.heap.size 26 i0_ _ 4 32 Try.underlying22 hi_ hz0 hz1 hz2 rfl (by omega) (.slice A7 L.length c7) L.length (L.flatMap Rt.L) rfl H7.out.own (some ⟨w7.heap.size, 0, none⟩) 1 1 (rtL more) rfl rfl (fun e => by cases e) (.inr ⟨_, rfl, HV.out.at⟩) (by simp [Value.oneCell']) (by unfold maxLen; omega) (by omega) hHeld.size ?_; intro v8 w8 ho8 hg8 hat8; obtain ⟨A8, c8, rfl⟩ := own_slice ho8; rw [ownBlock_blk] at hg8; have H8 : Hid (OwR W5.heap.size 26 4 A8 (L.length + 1) c8 (L.flatMap Rt.L ++ rtL more) w8) := Go.Lib.hid ⟨ho8⟩; have y8 := grownW hg8 H7.out.ge hHeld.size; clear ho8 hg8 hat8
          refine hKc.out _ _ (hHeld.trans y8) (fun hHeld => ?_)
          clear hKc Kc
          try simp only [Act.put, List.setIfInBounds_toArray, List.set_cons_zero, List.set_cons_succ]
          refine wpAnyH_take (i := 6) (oi := ⟨some 0, _, _, _, _, _⟩) (v := ?_) rfl (by kernel_rfl) (by kernel_rfl) (by kernel_rfl) (fun _ _ _ h => h) (Or.inl ⟨by rfl, ?_⟩) (by assumption) ?_
          rotate_left
          · intro w hSw; (try dsimp only at hSw); go_simp; (try with_reducible rfl)
          try simp only [Act.put, List.setIfInBounds_toArray, List.set_cons_zero, List.set_cons_succ]
          refine wpAnyH_done (by kernel_rfl) ?_ _
          have yq := hHeld
          clear hHeld
          have x8 := x5.trans (yq.mono x5.size)
          have HL8 : Hid (RtsAt w8 (L ++ [more]) A8 c8) := Go.Lib.hid (RtsAt.ofOwn (by rw [List.length_append, List.length_singleton]) (by rw [List.flatMap_append]; simpa [Rt.L] using H8.out.own) (fun r hr => (List.mem_append.1 hr).elim (HL.out.rng r) (fun e => by rw [List.mem_singleton.1 e]; exact UM.out)))
          have HM8 := Go.Lib.hid (HM5.out.keep yq HM5.out.lt)
          have HG8 := Go.Lib.hid (HG5.out.keep yq HG5.out.lt)
          have HN8 : Hid ((L ++ [more]).length = L.length + 1) := Go.Lib.hid (by rw [List.length_append]; rfl)
          obtain ⟨b2, hb2⟩ : ∃ q, rightR (L ++ [more]) = q := ⟨_, rfl⟩
          have HB2 := Go.Lib.hid hb2
          cases b2
          · clear hb2
            go_wp2_with (go_at_call 10; refine (kR.out (L ++ [more]) A8 c8 (L.length + 1) HN8.out (by omega) w8 HL8.out _ HB2.out).mono ?_; rintro e w9 ⟨rfl, y9⟩; have x9 := x8.trans (y9.mono x8.size); dsimp only)
            go_ret
            exact ⟨rfl, x9⟩
          have hfm := find_more ((rightR_iff _).1 hb2) addr
          obtain ⟨⟨y, has⟩, hfy⟩ : ∃ q, findR (L ++ [more]) addr = q := ⟨_, rfl⟩
          have HFY := Go.Lib.hid hfy
          rw [hfy, HFR.out] at hfm
          have HFM := Go.Lib.hid hfm
          clear hb2 hfy hfm
          go_upto_region 19 with (first
            | (go_at_call 10; refine (kR.out (L ++ [more]) A8 c8 (L.length + 1) HN8.out (by omega) w8 HL8.out _ HB2.out).mono ?_; rintro e w9 ⟨rfl, y9⟩; have x9 := x8.trans (y9.mono x8.size); have HL9 := Go.Lib.hid (HL8.out.at y9); have HM9 := Go.Lib.hid (HM8.out.keep y9 HM8.out.lt); have HG9 := Go.Lib.hid (HG8.out.keep y9 HG8.out.lt); dsimp only)
            | (go_at_call 8; refine (kF.out (L ++ [more]) A8 c8 (L.length + 1) HN8.out (by omega) addr UA.out w9 HL9.out _ HFY.out).mono ?_; rintro e w10 ⟨rfl, y10⟩; dsimp only))
          have x10 := x9.trans (y10.mono x9.size)
          have y11 := below_alloc y10 y10.size (oRt y)
          have x11 := below_alloc x10 x10.size (oRt y)
          have HM11 := Go.Lib.hid (HM9.out.keep y11 HM9.out.lt)
          have HG := Go.Lib.hid (HG9.out.keep y11 HG9.out.lt)
          have HY := Go.Lib.hid (Bxo.made w10 26 (rtL y))
          clear y10 y11 x10 HL9
          generalize w10.alloc (.cells (rtL y).toArray 26) = w11 at *
          generalize w10.heap.size = g9 at *
          obtain ⟨s1, hs1⟩ : ∃ s, sameRt y more = s := ⟨_, rfl⟩
          obtain ⟨q1, hq1⟩ : ∃ s, inN addr more.net more.bits = s := ⟨_, rfl⟩
          have HQ1 := Go.Lib.hid hq1
          have e1 : ∀ W, (binOp .eql 26 (rtV y) (rtV more)).run Try.prog W = .ok (.bool s1) W := fun W => by rw [eqRt, hs1]
          have m0 := HM11.out.cell 0 rfl
          have m1 := HM11.out.cell 1 rfl
          by_cases hA : s1 = true ∧ q1 = true
          · obtain ⟨rfl, rfl⟩ := hA
            clear hs1 hq1
            have tok1 : True := trivial
            have tok2 : True := trivial
            go_wp2_with (first
              | (clear tok1; refine wpList_load_box rfl 26 _ rfl g9 rfl (rtL y) _ HY.out Try.underlying26 rfl info_rt ?_)
              | (clear tok2; refine wpList_load_box rfl 26 _ rfl w.heap.size rfl (rtL more) _ HM11.out Try.underlying26 rfl info_rt ?_)
              | (go_at_call 14; refine (kI.out addr more.net more.bits UA.out UM.out.net w11 _ HQ1.out).mono ?_; rintro e w12 ⟨rfl, y12⟩; have x12 := x11.trans (y12.mono x11.size); have HY := Go.Lib.hid (HY.out.keep y12 HY.out.lt); have HG := Go.Lib.hid (HG.out.keep y12 HG.out.lt); dsimp only))
            go_ret
            exact ⟨rfl, x12⟩
          · have hyr : y = r ∧ has = o := by
              rcases HFM.out with ⟨e, h⟩ | e
              · injection e with e e'
                exact absurd ⟨by rw [← hs1, e]; exact (sameRt_iff _ _).2 rfl, by rw [← hq1]; exact h⟩ hA
              · injection e with e e'
                exact ⟨e, e'⟩
            obtain ⟨rfl, rfl⟩ := hyr
            have e2 : ∀ W, (binOp .eql 26 (rtV y) (rtV y)).run Try.prog W = .ok (.bool true) W := fun W => by rw [eqRt, (sameRt_iff y y).2 rfl]
            have e3 : (has == has) = true := by simp
            cases s1
            · clear hs1 hq1 hA
              go_wp2_with (first
                | (refine wpList_load_box rfl 26 _ rfl g9 rfl (rtL y) _ HY.out Try.underlying26 rfl info_rt ?_)
                | (refine wpList_load_box rfl 26 _ rfl w.heap.size rfl (rtL more) _ HM11.out Try.underlying26 rfl info_rt ?_)
                | (refine wpList_load_box rfl 26 _ rfl g12 rfl (rtL y) _ HG.out Try.underlying26 rfl info_rt ?_)
                | (go_at_call 14; refine (kI.out addr more.net more.bits UA.out UM.out.net w11 _ HQ1.out).mono ?_; rintro e w12 ⟨rfl, y12⟩; have x12 := x11.trans (y12.mono x11.size); have HY := Go.Lib.hid (HY.out.keep y12 HY.out.lt); have HG := Go.Lib.hid (HG.out.keep y12 HG.out.lt); dsimp only))
              go_ret
              exact ⟨rfl, x11⟩
            · obtain rfl : q1 = false := by
                cases q1
                · rfl
                · exact absurd ⟨rfl, rfl⟩ hA
              clear hs1 hq1 hA
              go_wp2_with (first
                | (refine wpList_load_box rfl 26 _ rfl g9 rfl (rtL y) _ HY.out Try.underlying26 rfl info_rt ?_)
                | (refine wpList_load_box rfl 26 _ rfl w.heap.size rfl (rtL more) _ HM11.out Try.underlying26 rfl info_rt ?_)
                | (refine wpList_load_box rfl 26 _ rfl g12 rfl (rtL y) _ HG.out Try.underlying26 rfl info_rt ?_)
                | (go_at_call 14; refine (kI.out addr more.net more.bits UA.out UM.out.net w11 _ HQ1.out).mono ?_; rintro e w12 ⟨rfl, y12⟩; have x12 := x11.trans (y12.mono x11.size); have HY := Go.Lib.hid (HY.out.keep y12 HY.out.lt); have HG := Go.Lib.hid (HG.out.keep y12 HG.out.lt); dsimp only))
              go_ret
              exact ⟨rfl, x12⟩
        ·
          go_simp
          have yB : Below wA.heap.size wA (wA.alloc (.cells #[.int .u32 more.net, .int .i64 more.bits, .int .i64 more.zone, .int .i64 more.mtu] 26)) := (Below.refl _ _).alloc (Nat.le_refl _) _; have HV := Go.Lib.hid (show Bxo (wA.alloc (.cells #[.int .u32 more.net, .int .i64 more.bits, .int .i64 more.zone, .int .i64 more.mtu] 26)) wA.heap.size 26 (rtL more) from Bxo.made wA 26 (rtL more)); have HNE : Hid (W5.heap.size ≠ wA.heap.size) := Go.Lib.hid (by have := HE.out.lt _ rfl; show W5.heap.size ≠ _; have q : W5.heap.size < wA.heap.size := this; omega); have HE := Go.Lib.hid (HE.out.at yB); have YB : Hid (Below W5.heap.size W5 (wA.alloc (.cells #[.int .u32 more.net, .int .i64 more.bits, .int .i64 more.zone, .int .i64 more.mtu] 26))) := Go.Lib.hid (hHeld.trans (yB.mono hHeld.size)); generalize wA.alloc (.cells #[.int .u32 more.net, .int .i64 more.bits, .int .i64 more.zone, .int .i64 more.mtu] 26) = wB at *
          refine hKc.out _ _ (YB.out) (fun hHeld => ?_)
          clear hKc Kc
          try simp only [Act.put, List.setIfInBounds_toArray, List.set_cons_zero, List.set_cons_succ]
          refine wpAnyH_ready (rs := [2]) (by kernel_rfl) (by simp) (AllReadyH.cons (o := ⟨some 77, _, _, _, _, _⟩) rfl (fun Kc hKc => ?_) AllReadyH.nil)
          rw [if_pos (by rfl)]
          refine step_append_rdK _ _ 22 rfl W5.heap.size 26 i0_ _ 4 32 Try.underlying22 hi_ hz0 hz1 hz2 rfl (by omega) (.slice (some ⟨W5.heap.size, 0, none⟩) 0 0) 0 [] rfl HE.out.own A L.length c (L.flatMap Rt.L) rfl HLL.out HLN.out (HL5.out.rd.keep hHeld) (rt_one _) (by unfold maxLen; omega) (by omega) hHeld.size ?_; intro v7 w7 ho7 hg7 hat7; rw [Nat.zero_add, List.nil_append] at ho7; obtain ⟨A7, c7, rfl⟩ := own_slice ho7; rw [ownBlock_blk] at hg7; have H7 : Hid (OwR W5.heap.size 26 4 A7 L.length c7 (L.flatMap Rt.L) w7) := Go.Lib.hid ⟨ho7⟩; have y7 := grownW hg7 HE.out.ge hHeld.size; have HV := Go.Lib.hid (show Bxo w7 wA.heap.size 26 (rtL more) from (hg7.block _ HV.out.lt (fun e => HNE.out (by injection e with e; exact e.symm))).trans HV.out); clear ho7 hg7 hat7
          refine hKc.out _ _ (hHeld.trans y7) (fun hHeld => ?_)
          clear hKc Kc
          try simp only [Act.put, List.setIfInBounds_toArray, List.set_cons_zero, List.set_cons_succ]
          refine wpAnyH_ready (rs := [5]) (by kernel_rfl) (by simp) (AllReadyH.cons (o := ⟨some 80, _, _, _, _, _⟩) rfl (fun Kc hKc => ?_) AllReadyH.nil)
          rw [if_pos (by rfl)]
          refine step_append_rdK _ _ 22 rfl W5.heap.size 26 i0_ _ 4 32 Try.underlying22 hi_ hz0 hz1 hz2 rfl (by omega) (.slice A7 L.length c7) L.length (L.flatMap Rt.L) rfl H7.out.own (some ⟨wA.heap.size, 0, none⟩) 1 1 (rtL more) rfl rfl (fun e => by cases e) (.inr ⟨_, rfl, HV.out.at⟩) (by simp [Value.oneCell']) (by unfold maxLen; omega) (by omega) hHeld.size ?_; intro v8 w8 ho8 hg8 hat8; obtain ⟨A8, c8, rfl⟩ := own_slice ho8; rw [ownBlock_blk] at hg8; have H8 : Hid (OwR W5.heap.size 26 4 A8 (L.length + 1) c8 (L.flatMap Rt.L ++ rtL more) w8) := Go.Lib.hid ⟨ho8⟩; have y8 := grownW hg8 H7.out.ge hHeld.size; clear ho8 hg8 hat8
          refine hKc.out _ _ (hHeld.trans y8) (fun hHeld => ?_)
          clear hKc Kc
          try simp only [Act.put, List.setIfInBounds_toArray, List.set_cons_zero, List.set_cons_succ]
          refine wpAnyH_take (i := 6) (oi := ⟨some 0, _, _, _, _, _⟩) (v := ?_) rfl (by kernel_rfl) (by kernel_rfl) (by kernel_rfl) (fun _ _ _ h => h) (Or.inl ⟨by rfl, ?_⟩) (by assumption) ?_
          rotate_left
          · intro w hSw; (try dsimp only at hSw); go_simp; (try with_reducible rfl)
          try simp only [Act.put, List.setIfInBounds_toArray, List.set_cons_zero, List.set_cons_succ]
          refine wpAnyH_done (by kernel_rfl) ?_ _
          have yq := hHeld
          clear hHeld
          have x8 := x5.trans (yq.mono x5.size)
          have HL8 : Hid (RtsAt w8 (L ++ [more]) A8 c8) := Go.Lib.hid (RtsAt.ofOwn (by rw [List.length_append, List.length_singleton]) (by rw [List.flatMap_append]; simpa [Rt.L] using H8.out.own) (fun r hr => (List.mem_append.1 hr).elim (HL.out.rng r) (fun e => by rw [List.mem_singleton.1 e]; exact UM.out)))
          have HM8 := Go.Lib.hid (HM5.out.keep yq HM5.out.lt)
          have HG8 := Go.Lib.hid (HG5.out.keep yq HG5.out.lt)
          have HN8 : Hid ((L ++ [more]).length = L.length + 1) := Go.Lib.hid (by rw [List.length_append]; rfl)
          obtain ⟨b2, hb2⟩ : ∃ q, rightR (L ++ [more]) = q := ⟨_, rfl⟩
          have HB2 := Go.Lib.hid hb2
          cases b2
          · clear hb2
            go_wp2_with (go_at_call 10; refine (kR.out (L ++ [more]) A8 c8 (L.length + 1) HN8.out (by omega) w8 HL8.out _ HB2.out).mono ?_; rintro e w9 ⟨rfl, y9⟩; have x9 := x8.trans (y9.mono x8.size); dsimp only)
            go_ret
            exact ⟨rfl, x9⟩
          have hfm := find_more ((rightR_iff _).1 hb2) addr
          obtain ⟨⟨y, has⟩, hfy⟩ : ∃ q, findR (L ++ [more]) addr = q := ⟨_, rfl⟩
          have HFY := Go.Lib.hid hfy
          rw [hfy, HFR.out] at hfm
          have HFM := Go.Lib.hid hfm
          clear hb2 hfy hfm
          go_upto_region 19 with (first
            | (go_at_call 10; refine (kR.out (L ++ [more]) A8 c8 (L.length + 1) HN8.out (by omega) w8 HL8.out _ HB2.out).mono ?_; rintro e w9 ⟨rfl, y9⟩; have x9 := x8.trans (y9.mono x8.size); have HL9 := Go.Lib.hid (HL8.out.at y9); have HM9 := Go.Lib.hid (HM8.out.keep y9 HM8.out.lt); have HG9 := Go.Lib.hid (HG8.out.keep y9 HG8.out.lt); dsimp only)
            | (go_at_call 8; refine (kF.out (L ++ [more]) A8 c8 (L.length + 1) HN8.out (by omega) addr UA.out w9 HL9.out _ HFY.out).mono ?_; rintro e w10 ⟨rfl, y10⟩; dsimp only))
          have x10 := x9.trans (y10.mono x9.size)
          have y11 := below_alloc y10 y10.size (oRt y)
          have x11 := below_alloc x10 x10.size (oRt y)
          have HM11 := Go.Lib.hid (HM9.out.keep y11 HM9.out.lt)
          have HG := Go.Lib.hid (HG9.out.keep y11 HG9.out.lt)
          have HY := Go.Lib.hid (Bxo.made w10 26 (rtL y))
          clear y10 y11 x10 HL9
          generalize w10.alloc (.cells (rtL y).toArray 26) = w11 at *
          generalize w10.heap.size = g9 at *
          obtain ⟨s1, hs1⟩ : ∃ s, sameRt y more = s := ⟨_, rfl⟩
          obtain ⟨q1, hq1⟩ : ∃ s, inN addr more.net more.bits = s := ⟨_, rfl⟩
          have HQ1 := Go.Lib.hid hq1
          have e1 : ∀ W, (binOp .eql 26 (rtV y) (rtV more)).run Try.prog W = .ok (.bool s1) W := fun W => by rw [eqRt, hs1]
          have m0 := HM11.out.cell 0 rfl
          have m1 := HM11.out.cell 1 rfl
          by_cases hA : s1 = true ∧ q1 = true
          · obtain ⟨rfl, rfl⟩ := hA
            clear hs1 hq1
            have tok1 : True := trivial
            have tok2 : True := trivial
            go_wp2_with (first
              | (clear tok1; refine wpList_load_box rfl 26 _ rfl g9 rfl (rtL y) _ HY.out Try.underlying26 rfl info_rt ?_)
              | (clear tok2; refine wpList_load_box rfl 26 _ rfl w.heap.size rfl (rtL more) _ HM11.out Try.underlying26 rfl info_rt ?_)
              | (go_at_call 14; refine (kI.out addr more.net more.bits UA.out UM.out.net w11 _ HQ1.out).mono ?_; rintro e w12 ⟨rfl, y12⟩; have x12 := x11.trans (y12.mono x11.size); have HY := Go.Lib.hid (HY.out.keep y12 HY.out.lt); have HG := Go.Lib.hid (HG.out.keep y12 HG.out.lt); dsimp only))
            go_ret
            exact ⟨rfl, x12⟩
          · have hyr : y = r ∧ has = o := by
              rcases HFM.out with ⟨e, h⟩ | e
              · injection e with e e'
                exact absurd ⟨by rw [← hs1, e]; exact (sameRt_iff _ _).2 rfl, by rw [← hq1]; exact h⟩ hA
              · injection e with e e'
                exact ⟨e, e'⟩
            obtain ⟨rfl, rfl⟩ := hyr
            have e2 : ∀ W, (binOp .eql 26 (rtV y) (rtV y)).run Try.prog W = .ok (.bool true) W := fun W => by rw [eqRt, (sameRt_iff y y).2 rfl]
            have e3 : (has == has) = true := by simp
            cases s1
            · clear hs1 hq1 hA
              go_wp2_with (first
                | (refine wpList_load_box rfl 26 _ rfl g9 rfl (rtL y) _ HY.out Try.underlying26 rfl info_rt ?_)
                | (refine wpList_load_box rfl 26 _ rfl w.heap.size rfl (rtL more) _ HM11.out Try.underlying26 rfl info_rt ?_)
                | (refine wpList_load_box rfl 26 _ rfl g12 rfl (rtL y) _ HG.out Try.underlying26 rfl info_rt ?_)
                | (go_at_call 14; refine (kI.out addr more.net more.bits UA.out UM.out.net w11 _ HQ1.out).mono ?_; rintro e w12 ⟨rfl, y12⟩; have x12 := x11.trans (y12.mono x11.size); have HY := Go.Lib.hid (HY.out.keep y12 HY.out.lt); have HG := Go.Lib.hid (HG.out.keep y12 HG.out.lt); dsimp only))
              go_ret
              exact ⟨rfl, x11⟩
            · obtain rfl : q1 = false := by
                cases q1
                · rfl
                · exact absurd ⟨rfl, rfl⟩ hA
              clear hs1 hq1 hA
              go_wp2_with (first
                | (refine wpList_load_box rfl 26 _ rfl g9 rfl (rtL y) _ HY.out Try.underlying26 rfl info_rt ?_)
                | (refine wpList_load_box rfl 26 _ rfl w.heap.size rfl (rtL more) _ HM11.out Try.underlying26 rfl info_rt ?_)
                | (refine wpList_load_box rfl 26 _ rfl g12 rfl (rtL y) _ HG.out Try.underlying26 rfl info_rt ?_)
                | (go_at_call 14; refine (kI.out addr more.net more.bits UA.out UM.out.net w11 _ HQ1.out).mono ?_; rintro e w12 ⟨rfl, y12⟩; have x12 := x11.trans (y12.mono x11.size); have HY := Go.Lib.hid (HY.out.keep y12 HY.out.lt); have HG := Go.Lib.hid (HG.out.keep y12 HG.out.lt); dsimp only))
              go_ret
              exact ⟨rfl, x12⟩
      ·
        go_simp
        have yB : Below W5.heap.size W5 ((W5.alloc (.cells #[.int .u32 more.net, .int .i64 more.bits, .int .i64 more.zone, .int .i64 more.mtu] 26)).drew) := below_drew ((Below.refl _ _).alloc (Nat.le_refl _) _); have HV := Go.Lib.hid (show Bxo ((W5.alloc (.cells #[.int .u32 more.net, .int .i64 more.bits, .int .i64 more.zone, .int .i64 more.mtu] 26)).drew) W5.heap.size 26 (rtL more) from Bxo.made W5 26 (rtL more)); have YB : Hid (Below W5.heap.size W5 ((W5.alloc (.cells #[.int .u32 more.net, .int .i64 more.bits, .int .i64 more.zone, .int .i64 more.mtu] 26)).drew)) := Go.Lib.hid (yB); generalize (W5.alloc (.cells #[.int .u32 more.net, .int .i64 more.bits, .int .i64 more.zone, .int .i64 more.mtu] 26)).drew = wB at *
        refine hKc.out _ _ (YB.out) (fun hHeld => ?_)
        clear hKc Kc
        try simp only [Act.put, List.setIfInBounds_toArray, List.set_cons_zero, List.set_cons_succ]
        refine wpAnyH_ready (rs := [0]) (by kernel_rfl) (by simp) (AllReadyH.cons (o := ⟨some 75, _, _, _, _, _⟩) rfl (fun Kc hKc => ?_) AllReadyH.nil)
        go_simp
        have yA : Below wB.heap.size wB (wB.alloc (.cells #[] 26)) := (Below.refl _ _).alloc (Nat.le_refl _) _; have HE := Go.Lib.hid (OwR.made wB W5.heap.size 26 4 (show W5.heap.size ≤ wB.heap.size from hHeld.size)); have HNE : Hid (wB.heap.size ≠ W5.heap.size) := Go.Lib.hid (by have := HV.out.lt; omega); have HV := Go.Lib.hid (HV.out.keep yA HV.out.lt); have YA : Hid (Below W5.heap.size W5 (wB.alloc (.cells #[] 26))) := Go.Lib.hid (hHeld.trans (yA.mono hHeld.size)); generalize wB.alloc (.cells #[] 26) = wA at *
        refine hKc.out _ _ (YA.out) (fun hHeld => ?_)
        clear hKc Kc
        try simp only [Act.put, List.setIfInBounds_toArray, List.set_cons_zero, List.set_cons_succ]
        refine wpAnyH_ready (rs := [2]) (by kernel_rfl) (by simp) (AllReadyH.cons (o := ⟨some 77, _, _, _, _, _⟩) rfl (fun Kc hKc => ?_) AllReadyH.nil)
        rw [if_pos (by rfl)]
        refine step_append_rdK _ _ 22 rfl W5.heap.size 26 i0_ _ 4 32 Try.underlying22 hi_ hz0 hz1 hz2 rfl (by omega) (.slice (some ⟨wB.heap.size, 0, none⟩) 0 0) 0 [] rfl HE.out.own A L.length c (L.flatMap Rt.L) rfl HLL.out HLN.out (HL5.out.rd.keep hHeld) (rt_one _) (by unfold maxLen; omega) (by omega) hHeld.size ?_; intro v7 w7 ho7 hg7 hat7; rw [Nat.zero_add, List.nil_append] at ho7; obtain ⟨A7, c7, rfl⟩ := own_slice ho7; rw [ownBlock_blk] at hg7; have H7 : Hid (OwR W5.heap.size 26 4 A7 L.length c7 (L.flatMap Rt.L) w7) := Go.Lib.hid ⟨ho7⟩; have y7 := grownW hg7 HE.out.ge hHeld.size; have HV := Go.Lib.hid (show Bxo w7 W5.heap.size 26 (rtL more) from (hg7.block _ HV.out.lt (fun e => HNE.out (by injection e with e; exact e.symm))).trans HV.out); clear ho7 hg7 hat7
        refine hKc.out _ _ (hHeld.trans y7) (fun hHeld => ?_)
        clear hKc Kc
        try simp only [Act.put, List.setIfInBounds_toArray, List.set_cons_zero, List.set_cons_succ]
        refine wpAnyH_ready (rs := [5]) (by kernel_rfl) (by simp) (AllReadyH.cons (o := ⟨some 80, _, _, _, _, _⟩) rfl (fun Kc hKc => ?_) AllReadyH.nil)
        rw [if_pos (by rfl)]
        refine step_append_rdK _ _ 22 rfl W5.heap.size 26 i0_ _ 4 32 Try.underlying22 hi_ hz0 hz1 hz2 rfl (by omega) (.slice A7 L.length c7) L.length (L.flatMap Rt.L) rfl H7.out.own (some ⟨W5.heap.size, 0, none⟩) 1 1 (rtL more) rfl rfl (fun e => by cases e) (.inr ⟨_, rfl, HV.out.at⟩) (by simp [Value.oneCell']) (by unfold maxLen; omega) (by omega) hHeld.size ?_; intro v8 w8 ho8 hg8 hat8; obtain ⟨A8, c8, rfl⟩ := own_slice ho8; rw [ownBlock_blk] at hg8; have H8 : Hid (OwR W5.heap.size 26 4 A8 (L.length + 1) c8 (L.flatMap Rt.L ++ rtL more) w8) := Go.Lib.hid ⟨ho8⟩; have y8 := grownW hg8 H7.out.ge hHeld.size; clear ho8 hg8 hat8
        refine hKc.out _ _ (hHeld.trans y8) (fun hHeld => ?_)
        clear hKc Kc
        try simp only [Act.put, List.setIfInBounds_toArray, List.set_cons_zero, List.set_cons_succ]
        refine wpAnyH_take (i := 6) (oi := ⟨some 0, _, _, _, _, _⟩) (v := ?_) rfl (by kernel_rfl) (by kernel_rfl) (by kernel_rfl) (fun _ _ _ h => h) (Or.inl ⟨by rfl, ?_⟩) (by assumption) ?_
        rotate_left
        · intro w hSw; (try dsimp only at hSw); go_simp; (try with_reducible rfl)
        try simp only [Act.put, List.setIfInBounds_toArray, List.set_cons_zero, List.set_cons_succ]
        refine wpAnyH_done (by kernel_rfl) ?_ _
        have yq := hHeld
        clear hHeld
        have x8 := x5.trans (yq.mono x5.size)
        have HL8 : Hid (RtsAt w8 (L ++ [more]) A8 c8) := Go.Lib.hid (RtsAt.ofOwn (by rw [List.length_append, List.length_singleton]) (by rw [List.flatMap_append]; simpa [Rt.L] using H8.out.own) (fun r hr => (List.mem_append.1 hr).elim (HL.out.rng r) (fun e => by rw [List.mem_singleton.1 e]; exact UM.out)))
        have HM8 := Go.Lib.hid (HM5.out.keep yq HM5.out.lt)
        have HG8 := Go.Lib.hid (HG5.out.keep yq HG5.out.lt)
        have HN8 : Hid ((L ++ [more]).length = L.length + 1) := Go.Lib.hid (by rw [List.length_append]; rfl)
        obtain ⟨b2, hb2⟩ : ∃ q, rightR (L ++ [more]) = q := ⟨_, rfl⟩
        have HB2 := Go.Lib.hid hb2
        cases b2
        · clear hb2
          go_wp2_with (go_at_call 10; refine (kR.out (L ++ [more]) A8 c8 (L.length + 1) HN8.out (by omega) w8 HL8.out _ HB2.out).mono ?_; rintro e w9 ⟨rfl, y9⟩; have x9 := x8.trans (y9.mono x8.size); dsimp only)
          go_ret
          exact ⟨rfl, x9⟩
        have hfm := find_more ((rightR_iff _).1 hb2) addr
        obtain ⟨⟨y, has⟩, hfy⟩ : ∃ q, findR (L ++ [more]) addr = q := ⟨_, rfl⟩
        have HFY := Go.Lib.hid hfy
        rw [hfy, HFR.out] at hfm
        have HFM := Go.Lib.hid hfm
        clear hb2 hfy hfm
        go_upto_region 19 with (first
          | (go_at_call 10; refine (kR.out (L ++ [more]) A8 c8 (L.length + 1) HN8.out (by omega) w8 HL8.out _ HB2.out).mono ?_; rintro e w9 ⟨rfl, y9⟩; have x9 := x8.trans (y9.mono x8.size); have HL9 := Go.Lib.hid (HL8.out.at y9); have HM9 := Go.Lib.hid (HM8.out.keep y9 HM8.out.lt); have HG9 := Go.Lib.hid (HG8.out.keep y9 HG8.out.lt); dsimp only)
          | (go_at_call 8; refine (kF.out (L ++ [more]) A8 c8 (L.length + 1) HN8.out (by omega) addr UA.out w9 HL9.out _ HFY.out).mono ?_; rintro e w10 ⟨rfl, y10⟩; dsimp only))
        have x10 := x9.trans (y10.mono x9.size)
        have y11 := below_alloc y10 y10.size (oRt y)
        have x11 := below_alloc x10 x10.size (oRt y)
        have HM11 := Go.Lib.hid (HM9.out.keep y11 HM9.out.lt)
        have HG := Go.Lib.hid (HG9.out.keep y11 HG9.out.lt)
        have HY := Go.Lib.hid (Bxo.made w10 26 (rtL y))
        clear y10 y11 x10 HL9
        generalize w10.alloc (.cells (rtL y).toArray 26) = w11 at *
        generalize w10.heap.size = g9 at *
        obtain ⟨s1, hs1⟩ : ∃ s, sameRt y more = s := ⟨_, rfl⟩
        obtain ⟨q1, hq1⟩ : ∃ s, inN addr more.net more.bits = s := ⟨_, rfl⟩
        have HQ1 := Go.Lib.hid hq1
        have e1 : ∀ W, (binOp .eql 26 (rtV y) (rtV more)).run Try.prog W = .ok (.bool s1) W := fun W => by rw [eqRt, hs1]
        have m0 := HM11.out.cell 0 rfl
        have m1 := HM11.out.cell 1 rfl
        by_cases hA : s1 = true ∧ q1 = true
        · obtain ⟨rfl, rfl⟩ := hA
          clear hs1 hq1
          have tok1 : True := trivial
          have tok2 : True := trivial
          go_wp2_with (first
            | (clear tok1; refine wpList_load_box rfl 26 _ rfl g9 rfl (rtL y) _ HY.out Try.underlying26 rfl info_rt ?_)
            | (clear tok2; refine wpList_load_box rfl 26 _ rfl w.heap.size rfl (rtL more) _ HM11.out Try.underlying26 rfl info_rt ?_)
            | (go_at_call 14; refine (kI.out addr more.net more.bits UA.out UM.out.net w11 _ HQ1.out).mono ?_; rintro e w12 ⟨rfl, y12⟩; have x12 := x11.trans (y12.mono x11.size); have HY := Go.Lib.hid (HY.out.keep y12 HY.out.lt); have HG := Go.Lib.hid (HG.out.keep y12 HG.out.lt); dsimp only))
          go_ret
          exact ⟨rfl, x12⟩
        · have hyr : y = r ∧ has = o := by
            rcases HFM.out with ⟨e, h⟩ | e
            · injection e with e e'
              exact absurd ⟨by rw [← hs1, e]; exact (sameRt_iff _ _).2 rfl, by rw [← hq1]; exact h⟩ hA
            · injection e with e e'
              exact ⟨e, e'⟩
          obtain ⟨rfl, rfl⟩ := hyr
          have e2 : ∀ W, (binOp .eql 26 (rtV y) (rtV y)).run Try.prog W = .ok (.bool true) W := fun W => by rw [eqRt, (sameRt_iff y y).2 rfl]
          have e3 : (has == has) = true := by simp
          cases s1
          · clear hs1 hq1 hA
            go_wp2_with (first
              | (refine wpList_load_box rfl 26 _ rfl g9 rfl (rtL y) _ HY.out Try.underlying26 rfl info_rt ?_)
              | (refine wpList_load_box rfl 26 _ rfl w.heap.size rfl (rtL more) _ HM11.out Try.underlying26 rfl info_rt ?_)
              | (refine wpList_load_box rfl 26 _ rfl g12 rfl (rtL y) _ HG.out Try.underlying26 rfl info_rt ?_)
              | (go_at_call 14; refine (kI.out addr more.net more.bits UA.out UM.out.net w11 _ HQ1.out).mono ?_; rintro e w12 ⟨rfl, y12⟩; have x12 := x11.trans (y12.mono x11.size); have HY := Go.Lib.hid (HY.out.keep y12 HY.out.lt); have HG := Go.Lib.hid (HG.out.keep y12 HG.out.lt); dsimp only))
            go_ret
            exact ⟨rfl, x11⟩
          · obtain rfl : q1 = false := by
              cases q1
              · rfl
              · exact absurd ⟨rfl, rfl⟩ hA
            clear hs1 hq1 hA
            go_wp2_with (first
              | (refine wpList_load_box rfl 26 _ rfl g9 rfl (rtL y) _ HY.out Try.underlying26 rfl info_rt ?_)
              | (refine wpList_load_box rfl 26 _ rfl w.heap.size rfl (rtL more) _ HM11.out Try.underlying26 rfl info_rt ?_)
              | (refine wpList_load_box rfl 26 _ rfl g12 rfl (rtL y) _ HG.out Try.underlying26 rfl info_rt ?_)
              | (go_at_call 14; refine (kI.out addr more.net more.bits UA.out UM.out.net w11 _ HQ1.out).mono ?_; rintro e w12 ⟨rfl, y12⟩; have x12 := x11.trans (y12.mono x11.size); have HY := Go.Lib.hid (HY.out.keep y12 HY.out.lt); have HG := Go.Lib.hid (HG.out.keep y12 HG.out.lt); dsimp only))
            go_ret
            exact ⟨rfl, x12⟩
end Go.Proofs.Ytalmknbcfgndkaa
