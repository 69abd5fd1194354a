/- Lemmas, several texts in one. -/
import Derived.Test.YtoghcefamoefpaaGreatDoorQ08
import Derived.Test.YtoghcefamoefpaaGreatDoorQ05
import Derived.Lib.Join
import Derived.Lib.AppendIntMem
/- The landed conf: Right. -/
namespace Go.Proofs.YtoghcefamoefpaaGreatDoor
open Go.ChangeShapes Go.WideShapes Go.ChangeAt Go.RowKit
set_option linter.unusedVariables false
set_option linter.unusedSimpArgs false

set_option maxRecDepth 100000 in
set_option maxHeartbeats 8000000 in
theorem cright15n (c : Cf) (p : Cfm) (w : World) (h : CfAt w c p) (q : Bool) (hq : rightCf c = q) : Calls Tryz.prog 10 #[cfV c p] w fun e w' => e = .returned (.bool q) ∧ Below w.heap.size w w' := by
  obtain ⟨routes, rules, outside, pub, lo, hi, fwds, tcp, other, budget⟩ := c
  obtain ⟨A1, c1, A2, c2, A3, c3⟩ := p
  unfold rightCf at hq
  dsimp only at hq
  obtain ⟨a, ha⟩ : ∃ a, rightR routes = a := ⟨_, rfl⟩
  obtain ⟨b, hb⟩ : ∃ b, rightU rules = b := ⟨_, rfl⟩
  obtain ⟨d, hd⟩ : ∃ d, rightFw lo hi fwds = d := ⟨_, rfl⟩
  obtain ⟨o, ho⟩ : ∃ o, btw 0 outside 7 = o := ⟨_, rfl⟩
  obtain ⟨l, hl⟩ : ∃ l, btw 1 lo hi = l := ⟨_, rfl⟩
  obtain ⟨m, hm⟩ : ∃ m, decide (hi ≤ 65535) = m := ⟨_, rfl⟩
  obtain ⟨i, hi'⟩ : ∃ i, btw 1 tcp 1048576 = i := ⟨_, rfl⟩
  obtain ⟨j, hj⟩ : ∃ j, btw 1 other 1048576 = j := ⟨_, rfl⟩
  obtain ⟨u, hu⟩ : ∃ u, btw 0 budget 1000 = u := ⟨_, rfl⟩
  have HQ : Hid (q = ((a && (b && d)) && (o && ((l && m) && ((i && j) && u))))) := Go.Lib.hid (by
    rw [← hq, ha, hb, hd, ho, hm, hi', hj, hu, ← hl]
    unfold btw
    cases a <;> cases b <;> cases d <;> cases o <;> cases m <;> cases i <;> cases j <;> cases u <;> cases decide (1 ≤ lo) <;> cases decide (lo ≤ hi) <;> rfl)
  have HA := Go.Lib.hid ha
  have HB := Go.Lib.hid hb
  have HD := Go.Lib.hid hd
  have HO := Go.Lib.hid ho
  have HL := Go.Lib.hid hl
  have HM := Go.Lib.hid hm
  have HI := Go.Lib.hid hi'
  have HJ := Go.Lib.hid hj
  have HU := Go.Lib.hid hu
  have HC := Go.Lib.hid h
  clear hq ha hb hd ho hl hm hi' hj hu h
  have y0 : Below w.heap.size w (w.alloc (oCf ⟨routes, rules, outside, pub, lo, hi, fwds, tcp, other, budget⟩ ⟨A1, c1, A2, c2, A3, c3⟩)) := (Below.refl _ _).alloc (Nat.le_refl _) _
  have hb := Bxo.made w 27 (cfL ⟨routes, rules, outside, pub, lo, hi, fwds, tcp, other, budget⟩ ⟨A1, c1, A2, c2, A3, c3⟩)
  go_enter Tryz.func10, Tryz.ntmps10
  go_upto_region 1 with fail
  generalize w.alloc (oCf ⟨routes, rules, outside, pub, lo, hi, fwds, tcp, other, budget⟩ ⟨A1, c1, A2, c2, A3, c3⟩) = W at *
  have y0s := y0.size
  generalize hg : w.heap.size = g at hb ⊢
  have HG := Go.Lib.hid hb
  have b0 := hb.cell 0 rfl
  dsimp only at b0
  clear hb
  go_cut [19] (fun s wx => s = .bool (!(a && (b && d))) ∧ Below W.heap.size W wx)
  case first =>
    cases a
    · go_wp2_with (go_at_call 26; refine (cright13n routes _ _ _ rfl _ (HC.out.at y0).routes _ HA.out).mono ?_; rintro e w3 ⟨rfl, y3⟩; dsimp only)
      go_meet
      exact ⟨rfl, y3⟩
    cases b
    · go_wp2_with (first
        | (go_at_call 26; refine (cright13n routes _ _ _ rfl _ (HC.out.at y0).routes _ HA.out).mono ?_; rintro e w3 ⟨rfl, y3⟩; have hb3 := HG.out.keep y3 HG.out.lt; have d1 := hb3.cell 1 rfl; dsimp only at d1; have HG3 := Go.Lib.hid hb3; have x3 := y0.trans (y3.mono y0.size); clear hb3; dsimp only)
        | (go_at_call 27; refine (cright14n rules _ _ _ rfl _ (HC.out.at x3).rules _ HB.out).mono ?_; rintro e w4 ⟨rfl, y4⟩; dsimp only))
      go_meet
      exact ⟨rfl, y3.trans (y4.mono y3.size)⟩
    · have tok1 : True := trivial
      go_wp2_with (first
        | (go_at_call 26; refine (cright13n routes _ _ _ rfl _ (HC.out.at y0).routes _ HA.out).mono ?_; rintro e w3 ⟨rfl, y3⟩; have hb3 := HG.out.keep y3 HG.out.lt; have d1 := hb3.cell 1 rfl; dsimp only at d1; have HG3 := Go.Lib.hid hb3; have x3 := y0.trans (y3.mono y0.size); clear hb3; dsimp only)
        | (go_at_call 27; refine (cright14n rules _ _ _ rfl _ (HC.out.at x3).rules _ HB.out).mono ?_; rintro e w4 ⟨rfl, y4⟩; have hb4 := HG3.out.keep y4 HG3.out.lt; have HG4 := Go.Lib.hid hb4; have x4 := x3.trans (y4.mono x3.size); clear hb4; dsimp only)
        | (go_at_call 28; refine (cfmb15 ⟨routes, rules, outside, pub, lo, hi, fwds, tcp, other, budget⟩ ⟨A1, c1, A2, c2, A3, c3⟩ _ (HC.out.at x4) _ HD.out).mono ?_; rintro e w5 ⟨rfl, y5⟩; have x5 := x4.trans (y5.mono x4.size); dsimp only)
        | (clear tok1; refine wpList_load_box rfl 27 _ rfl g rfl (cfL ⟨routes, rules, outside, pub, lo, hi, fwds, tcp, other, budget⟩ ⟨A1, c1, A2, c2, A3, c3⟩) _ HG4.out Tryz.underlying27 rfl info_cf ?_))
      go_meet
      exact ⟨by cases d <;> rfl, (y3.trans (y4.mono y3.size)).trans (y5.mono (Nat.le_trans y3.size y4.size))⟩
  case rest =>
    obtain ⟨rfl, yc⟩ := hcut
    rename World => W2
    clear b0
    have x2 := y0.trans (yc.mono y0s)
    have h1 := HG.out.keep yc HG.out.lt
    have e2 := h1.cell 2 rfl
    have e4 := h1.cell 4 rfl
    have e5 := h1.cell 5 rfl
    have e7 := h1.cell 7 rfl
    have e8 := h1.cell 8 rfl
    have e9 := h1.cell 9 rfl
    dsimp only at e2 e4 e5 e7 e8 e9
    clear h1
    obtain ⟨s, hs⟩ : ∃ s, (a && (b && d)) = s := ⟨_, rfl⟩
    rw [hs]
    have HQ : Hid (q = (s && (o && ((l && m) && ((i && j) && u))))) := Go.Lib.hid (by rw [HQ.out, hs])
    clear hs
    cases s
    · go_wp2_with fail
      go_ret
      exact ⟨by rw [HQ.out]; rfl, x2⟩
    have HM2 : Hid (decide (hi ≤ 65535) = m) := HM
    go_upto_region 3 with fail
    go_cut [3] (fun s wx => s = .bool (l && m) ∧ wx = W2)
    case first =>
      cases l
      · go_wp2_with (go_at_call_of 29 ([Value.int IntKind.i64 lo, Value.int IntKind.i64 1, Value.int IntKind.i64 hi]); refine (cfrom15 lo 1 hi _ _ HL.out).mono ?_; rintro e w8 ⟨rfl, rfl⟩; dsimp only)
        go_meet
        exact ⟨rfl, rfl⟩
      · by_cases t9 : hi ≤ 65535
        · have e : m = true := by rw [← HM.out]; simpa using t9
          subst e
          go_wp2_with (go_at_call_of 29 ([Value.int IntKind.i64 lo, Value.int IntKind.i64 1, Value.int IntKind.i64 hi]); refine (cfrom15 lo 1 hi _ _ HL.out).mono ?_; rintro e w8 ⟨rfl, rfl⟩; dsimp only)
          go_meet
          exact ⟨rfl, rfl⟩
        · have e : m = false := by rw [← HM.out]; simpa using t9
          subst e
          go_wp2_with (go_at_call_of 29 ([Value.int IntKind.i64 lo, Value.int IntKind.i64 1, Value.int IntKind.i64 hi]); refine (cfrom15 lo 1 hi _ _ HL.out).mono ?_; rintro e w8 ⟨rfl, rfl⟩; dsimp only)
          go_meet
          exact ⟨rfl, rfl⟩
    case rest =>
      obtain ⟨rfl, rfl⟩ := hcut
      obtain ⟨pt, hpt⟩ : ∃ pt, (l && m) = pt := ⟨_, rfl⟩
      rw [hpt]
      have HQ : Hid (q = (true && (o && (pt && ((i && j) && u))))) := Go.Lib.hid (by rw [HQ.out, hpt])
      clear hpt
      rename World => W3
      go_upto_region 4 with fail
      go_cut [4] (fun s wx => s = .bool (i && j) ∧ wx = W3)
      case first =>
        cases i
        · go_wp2_with (go_at_call_of 29 ([Value.int IntKind.i64 tcp, Value.int IntKind.i64 1, Value.int IntKind.i64 1048576]); refine (cfrom15 tcp 1 1048576 _ _ HI.out).mono ?_; rintro e w8 ⟨rfl, rfl⟩; dsimp only)
          go_meet
          exact ⟨rfl, rfl⟩
        · go_wp2_with (first
            | (go_at_call_of 29 ([Value.int IntKind.i64 tcp, Value.int IntKind.i64 1, Value.int IntKind.i64 1048576]); refine (cfrom15 tcp 1 1048576 _ _ HI.out).mono ?_; rintro e w8 ⟨rfl, rfl⟩; dsimp only)
            | (go_at_call_of 29 ([Value.int IntKind.i64 other, Value.int IntKind.i64 1, Value.int IntKind.i64 1048576]); refine (cfrom15 other 1 1048576 _ _ HJ.out).mono ?_; rintro e w8 ⟨rfl, rfl⟩; dsimp only))
          go_meet
          exact ⟨by cases j <;> rfl, rfl⟩
      case rest =>
        obtain ⟨rfl, rfl⟩ := hcut
        obtain ⟨lv, hlv⟩ : ∃ lv, (i && j) = lv := ⟨_, rfl⟩
        rw [hlv]
        have HQ : Hid (q = (true && (o && (pt && (lv && u))))) := Go.Lib.hid (by rw [HQ.out, hlv])
        clear hlv
        cases o
        · go_wp2_with (go_at_call_of 29 ([Value.int IntKind.i64 outside, Value.int IntKind.i64 0, Value.int IntKind.i64 7]); refine (cfrom15 outside 0 7 _ _ HO.out).mono ?_; rintro e w8 ⟨rfl, rfl⟩; dsimp only)
          go_ret
          exact ⟨by rw [HQ.out]; rfl, x2⟩
        cases pt
        · go_wp2_with (go_at_call_of 29 ([Value.int IntKind.i64 outside, Value.int IntKind.i64 0, Value.int IntKind.i64 7]); refine (cfrom15 outside 0 7 _ _ HO.out).mono ?_; rintro e w8 ⟨rfl, rfl⟩; dsimp only)
          go_ret
          exact ⟨by rw [HQ.out]; rfl, x2⟩
        cases lv
        · go_wp2_with (go_at_call_of 29 ([Value.int IntKind.i64 outside, Value.int IntKind.i64 0, Value.int IntKind.i64 7]); refine (cfrom15 outside 0 7 _ _ HO.out).mono ?_; rintro e w8 ⟨rfl, rfl⟩; dsimp only)
          go_ret
          exact ⟨by rw [HQ.out]; rfl, x2⟩
        · go_wp2_with (first
            | (go_at_call_of 29 ([Value.int IntKind.i64 outside, Value.int IntKind.i64 0, Value.int IntKind.i64 7]); refine (cfrom15 outside 0 7 _ _ HO.out).mono ?_; rintro e w8 ⟨rfl, rfl⟩; dsimp only)
            | (go_at_call_of 29 ([Value.int IntKind.i64 budget, Value.int IntKind.i64 0, Value.int IntKind.i64 1000]); refine (cfrom15 budget 0 1000 _ _ HU.out).mono ?_; rintro e w8 ⟨rfl, rfl⟩; dsimp only))
          go_ret
          exact ⟨by rw [HQ.out]; rfl, x2⟩
end Go.Proofs.YtoghcefamoefpaaGreatDoor

/- The landed conf: lists that are one. -/
namespace Go.Proofs.YtoghcefamoefpaaGreatDoor
open Go.ChangeShapes Go.WideShapes Go.ChangeAt Go.RowKit
set_option linter.unusedVariables false
set_option linter.unusedSimpArgs false

set_option maxRecDepth 100000 in
theorem eq1Rt (m : Rt) (w : World) : (Op.equalIn 10000 46 (rtV m) (rtV m)).run Tryz.prog w = .ok true w := by
  have hS : Tryz.prog.underlying 46 = some (.struct (Tryz.prog.fieldsOf 46)) := by kernel_rfl
  have hp : Tryz.prog.stoodInHeld 46 = false := by kernel_rfl
  have u0 := Tryz.underlying3
  have a0 := Tryz.isAgg3
  have z0 := Tryz.sizeOf3
  have u1 := Tryz.underlying24
  have a1 := Tryz.isAgg24
  have z1 := Tryz.sizeOf24
  rw [show (10000 : Nat) = 9999 + 1 from rfl, run_equalIn_agg w 9999 46 _ _ hS hp]
  simp only [Program.fieldsOf, Tryz.underlying46]
  simp only [Op.eqFields]
  go_simp
  try simp
theorem ne1Rt (m : Rt) (w : World) : (binOp .neq 46 (rtV m) (rtV m)).run Tryz.prog w = .ok (.bool false) w := by
  rw [run_neq_struct, eq1Rt]; rfl
set_option maxRecDepth 100000 in
set_option maxHeartbeats 8000000 in
theorem ceqRt (l : List Rt) (A : Option Addr) (c N : Nat) (hN : l.length = N) (A' : Option Addr) (c' : Nat) (w : World) (h : RtsAt w l A c) (h' : RtsAt w l A' c') : Calls Tryz.prog 23 #[.slice A N c, .slice A' N c'] w fun e w' => e = .returned (.bool true) ∧ Below w.heap.size w w' := by
  subst hN
  have HC := Go.Lib.hid h
  have HD := Go.Lib.hid h'
  have hlc := h.len
  have hcc := h.cap
  have hld := h'.len
  have hcd := h'.cap
  clear h h'
  go_enter Tryz.func23, Tryz.ntmps23
  go_wp2_with fail
  go_loopw [13] (fun iv wr => ∃ k : Nat, iv = .int .i64 k ∧ k ≤ l.length ∧ Below w.heap.size w wr) (fun iv _ => l.length - (intOf iv).toNat)
  case atStart => exact ⟨0, rfl, by omega, Below.refl _ _⟩
  case round =>
    rename World => W
    obtain ⟨k, rfl, hk, yo⟩ := hrel
    have k0 : (0 : Int) ≤ (k : Int) := by omega
    by_cases hkl : k < l.length
    · have t1 : (k : Int) < (l.length : Int) := by omega
      obtain ⟨a, rfl, hcell⟩ := HC.out.cell hkl
      obtain ⟨b, rfl, dcell⟩ := HD.out.cell hkl
      obtain ⟨r, hr⟩ : ∃ r, l[k] = r := ⟨_, rfl⟩
      rw [hr] at hcell dcell
      have HX : Hid (∀ Y, Below W.heap.size W Y → ∀ j v, (rtL r)[j]? = some v → Y.cell? ((a.add (k * 4)).add j) = some v) := Go.Lib.hid (fun Y h => hcell Y (yo.trans (h.mono yo.size)))
      have HY : Hid (∀ Y, Below W.heap.size W Y → ∀ j v, (rtL r)[j]? = some v → Y.cell? ((b.add (k * 4)).add j) = some v) := Go.Lib.hid (fun Y h => dcell Y (yo.trans (h.mono yo.size)))
      clear hcell dcell hr
      go_upto_region 6 with fail
      try simp only [Act.put, List.setIfInBounds_toArray, List.set_cons_zero, List.set_cons_succ]
      refine wp_region_held_drew (S := fun Y => Below W.heap.size W Y) (by kernel_rfl) ?_ (fun hHeld => ?_)
      · exact below_drew (Below.refl _ _)
      refine wpAnyH_take (i := 0) (oi := ⟨some 16, _, _, _, _, _⟩) (v := ?_) rfl (by kernel_rfl) (by kernel_rfl) (by kernel_rfl) (fun _ _ _ h => h) (Or.inl ⟨by rfl, ?_⟩) (by assumption) ?_
      rotate_left
      · intro w hSw; (try dsimp only at hSw); go_simp; (try with_reducible rfl)
      try simp only [Act.put, List.setIfInBounds_toArray, List.set_cons_zero, List.set_cons_succ]
      refine wpAnyH_take (i := 1) (oi := ⟨some 17, _, _, _, _, _⟩) (v := ?_) rfl (by kernel_rfl) (by kernel_rfl) (by kernel_rfl) (fun _ _ _ h => h) (Or.inl ⟨by rfl, ?_⟩) (by assumption) ?_
      rotate_left
      · intro w hSw; (try dsimp only at hSw); go_simp; (try with_reducible rfl)
      try simp only [Act.put, List.setIfInBounds_toArray, List.set_cons_zero, List.set_cons_succ]
      refine wpAnyH_take (i := 2) (oi := ⟨some 18, _, _, _, _, _⟩) (v := ?_) rfl (by kernel_rfl) (by kernel_rfl) (by kernel_rfl) (fun _ _ _ h => h) (Or.inl ⟨by rfl, ?_⟩) (by assumption) ?_
      rotate_left
      · intro w hSw; (try dsimp only at hSw); go_simp; (try with_reducible rfl)
      try simp only [Act.put, List.setIfInBounds_toArray, List.set_cons_zero, List.set_cons_succ]
      refine wpAnyH_take (i := 3) (oi := ⟨some 19, _, _, _, _, _⟩) (v := (rtV r)) rfl (by kernel_rfl) (by kernel_rfl) (by kernel_rfl) (fun _ _ _ h => h) (yieldsIf_load_at (by rfl) 46 _ rfl (a.add (k * 4)) rfl (rtL r) _ (fun Y h => HX.out Y h) Tryz.underlying46 rfl info_rt) (by assumption) ?_
      try simp only [Act.put, List.setIfInBounds_toArray, List.set_cons_zero, List.set_cons_succ]
      refine wpAnyH_take (i := 4) (oi := ⟨some 20, _, _, _, _, _⟩) (v := ?_) rfl (by kernel_rfl) (by kernel_rfl) (by kernel_rfl) (fun _ _ _ h => h) (Or.inl ⟨by rfl, ?_⟩) (by assumption) ?_
      rotate_left
      · intro w hSw; (try dsimp only at hSw); go_simp; (try with_reducible rfl)
      try simp only [Act.put, List.setIfInBounds_toArray, List.set_cons_zero, List.set_cons_succ]
      refine wpAnyH_take (i := 5) (oi := ⟨some 21, _, _, _, _, _⟩) (v := ?_) rfl (by kernel_rfl) (by kernel_rfl) (by kernel_rfl) (fun _ _ _ h => h) (Or.inl ⟨by rfl, ?_⟩) (by assumption) ?_
      rotate_left
      · intro w hSw; (try dsimp only at hSw); go_simp; (try with_reducible rfl)
      try simp only [Act.put, List.setIfInBounds_toArray, List.set_cons_zero, List.set_cons_succ]
      refine wpAnyH_take (i := 6) (oi := ⟨some 22, _, _, _, _, _⟩) (v := ?_) rfl (by kernel_rfl) (by kernel_rfl) (by kernel_rfl) (fun _ _ _ h => h) (Or.inl ⟨by rfl, ?_⟩) (by assumption) ?_
      rotate_left
      · intro w hSw; (try dsimp only at hSw); go_simp; (try with_reducible rfl)
      try simp only [Act.put, List.setIfInBounds_toArray, List.set_cons_zero, List.set_cons_succ]
      refine wpAnyH_take (i := 7) (oi := ⟨some 23, _, _, _, _, _⟩) (v := (rtV r)) rfl (by kernel_rfl) (by kernel_rfl) (by kernel_rfl) (fun _ _ _ h => h) (yieldsIf_load_at (by rfl) 46 _ rfl (b.add (k * 4)) rfl (rtL r) _ (fun Y h => HY.out Y h) Tryz.underlying46 rfl info_rt) (by assumption) ?_
      try simp only [Act.put, List.setIfInBounds_toArray, List.set_cons_zero, List.set_cons_succ]
      refine wpAnyH_take (i := 8) (oi := ⟨some 24, _, _, _, _, _⟩) (v := ?_) rfl (by kernel_rfl) (by kernel_rfl) (by kernel_rfl) (fun _ _ _ h => h) (Or.inl ⟨by rfl, ?_⟩) (by assumption) ?_
      rotate_left
      · intro w hSw; have hne := ne1Rt r w; (try dsimp only at hSw); go_simp; (try with_reducible rfl)
      try simp only [Act.put, List.setIfInBounds_toArray, List.set_cons_zero, List.set_cons_succ]
      refine wpAnyH_done (by kernel_rfl) ?_ _
      have yq := hHeld
      clear hHeld
      go_wp2
      go_round
      case rel => exact ⟨k + 1, by go_num, by omega, yo.trans (yq.mono yo.size)⟩
      case measure => simp [intOf]; omega

    · obtain rfl : k = l.length := by omega
      have t1 : ¬ (l.length : Int) < (l.length : Int) := by omega
      go_wp2_with fail
      go_ret
      exact ⟨rfl, yo⟩
set_option maxRecDepth 100000 in
theorem eq1Ru (m : Ru) (w : World) : (Op.equalIn 10000 54 (ruV m) (ruV m)).run Tryz.prog w = .ok true w := by
  have hS : Tryz.prog.underlying 54 = some (.struct (Tryz.prog.fieldsOf 54)) := by kernel_rfl
  have hp : Tryz.prog.stoodInHeld 54 = false := by kernel_rfl
  have u0 := Tryz.underlying3
  have a0 := Tryz.isAgg3
  have z0 := Tryz.sizeOf3
  have u1 := Tryz.underlying24
  have a1 := Tryz.isAgg24
  have z1 := Tryz.sizeOf24
  rw [show (10000 : Nat) = 9999 + 1 from rfl, run_equalIn_agg w 9999 54 _ _ hS hp]
  simp only [Program.fieldsOf, Tryz.underlying54]
  simp only [Op.eqFields]
  go_simp
  try simp
theorem ne1Ru (m : Ru) (w : World) : (binOp .neq 54 (ruV m) (ruV m)).run Tryz.prog w = .ok (.bool false) w := by
  rw [run_neq_struct, eq1Ru]; rfl
set_option maxRecDepth 100000 in
set_option maxHeartbeats 8000000 in
theorem ceqRu (l : List Ru) (A : Option Addr) (c N : Nat) (hN : l.length = N) (A' : Option Addr) (c' : Nat) (w : World) (h : RusAt w l A c) (h' : RusAt w l A' c') : Calls Tryz.prog 24 #[.slice A N c, .slice A' N c'] w fun e w' => e = .returned (.bool true) ∧ Below w.heap.size w w' := by
  subst hN
  have HC := Go.Lib.hid h
  have HD := Go.Lib.hid h'
  have hlc := h.len
  have hcc := h.cap
  have hld := h'.len
  have hcd := h'.cap
  clear h h'
  go_enter Tryz.func24, Tryz.ntmps24
  go_wp2_with fail
  go_loopw [13] (fun iv wr => ∃ k : Nat, iv = .int .i64 k ∧ k ≤ l.length ∧ Below w.heap.size w wr) (fun iv _ => l.length - (intOf iv).toNat)
  case atStart => exact ⟨0, rfl, by omega, Below.refl _ _⟩
  case round =>
    rename World => W
    obtain ⟨k, rfl, hk, yo⟩ := hrel
    have k0 : (0 : Int) ≤ (k : Int) := by omega
    by_cases hkl : k < l.length
    · have t1 : (k : Int) < (l.length : Int) := by omega
      obtain ⟨a, rfl, hcell⟩ := HC.out.cell hkl
      obtain ⟨b, rfl, dcell⟩ := HD.out.cell hkl
      obtain ⟨r, hr⟩ : ∃ r, l[k] = r := ⟨_, rfl⟩
      rw [hr] at hcell dcell
      have HX : Hid (∀ Y, Below W.heap.size W Y → ∀ j v, (ruL r)[j]? = some v → Y.cell? ((a.add (k * 10)).add j) = some v) := Go.Lib.hid (fun Y h => hcell Y (yo.trans (h.mono yo.size)))
      have HY : Hid (∀ Y, Below W.heap.size W Y → ∀ j v, (ruL r)[j]? = some v → Y.cell? ((b.add (k * 10)).add j) = some v) := Go.Lib.hid (fun Y h => dcell Y (yo.trans (h.mono yo.size)))
      clear hcell dcell hr
      go_upto_region 6 with fail
      try simp only [Act.put, List.setIfInBounds_toArray, List.set_cons_zero, List.set_cons_succ]
      refine wp_region_held_drew (S := fun Y => Below W.heap.size W Y) (by kernel_rfl) ?_ (fun hHeld => ?_)
      · exact below_drew (Below.refl _ _)
      refine wpAnyH_take (i := 0) (oi := ⟨some 16, _, _, _, _, _⟩) (v := ?_) rfl (by kernel_rfl) (by kernel_rfl) (by kernel_rfl) (fun _ _ _ h => h) (Or.inl ⟨by rfl, ?_⟩) (by assumption) ?_
      rotate_left
      · intro w hSw; (try dsimp only at hSw); go_simp; (try with_reducible rfl)
      try simp only [Act.put, List.setIfInBounds_toArray, List.set_cons_zero, List.set_cons_succ]
      refine wpAnyH_take (i := 1) (oi := ⟨some 17, _, _, _, _, _⟩) (v := ?_) rfl (by kernel_rfl) (by kernel_rfl) (by kernel_rfl) (fun _ _ _ h => h) (Or.inl ⟨by rfl, ?_⟩) (by assumption) ?_
      rotate_left
      · intro w hSw; (try dsimp only at hSw); go_simp; (try with_reducible rfl)
      try simp only [Act.put, List.setIfInBounds_toArray, List.set_cons_zero, List.set_cons_succ]
      refine wpAnyH_take (i := 2) (oi := ⟨some 18, _, _, _, _, _⟩) (v := ?_) rfl (by kernel_rfl) (by kernel_rfl) (by kernel_rfl) (fun _ _ _ h => h) (Or.inl ⟨by rfl, ?_⟩) (by assumption) ?_
      rotate_left
      · intro w hSw; (try dsimp only at hSw); go_simp; (try with_reducible rfl)
      try simp only [Act.put, List.setIfInBounds_toArray, List.set_cons_zero, List.set_cons_succ]
      refine wpAnyH_take (i := 3) (oi := ⟨some 19, _, _, _, _, _⟩) (v := (ruV r)) rfl (by kernel_rfl) (by kernel_rfl) (by kernel_rfl) (fun _ _ _ h => h) (yieldsIf_load_at (by rfl) 54 _ rfl (a.add (k * 10)) rfl (ruL r) _ (fun Y h => HX.out Y h) Tryz.underlying54 rfl info_ru) (by assumption) ?_
      try simp only [Act.put, List.setIfInBounds_toArray, List.set_cons_zero, List.set_cons_succ]
      refine wpAnyH_take (i := 4) (oi := ⟨some 20, _, _, _, _, _⟩) (v := ?_) rfl (by kernel_rfl) (by kernel_rfl) (by kernel_rfl) (fun _ _ _ h => h) (Or.inl ⟨by rfl, ?_⟩) (by assumption) ?_
      rotate_left
      · intro w hSw; (try dsimp only at hSw); go_simp; (try with_reducible rfl)
      try simp only [Act.put, List.setIfInBounds_toArray, List.set_cons_zero, List.set_cons_succ]
      refine wpAnyH_take (i := 5) (oi := ⟨some 21, _, _, _, _, _⟩) (v := ?_) rfl (by kernel_rfl) (by kernel_rfl) (by kernel_rfl) (fun _ _ _ h => h) (Or.inl ⟨by rfl, ?_⟩) (by assumption) ?_
      rotate_left
      · intro w hSw; (try dsimp only at hSw); go_simp; (try with_reducible rfl)
      try simp only [Act.put, List.setIfInBounds_toArray, List.set_cons_zero, List.set_cons_succ]
      refine wpAnyH_take (i := 6) (oi := ⟨some 22, _, _, _, _, _⟩) (v := ?_) rfl (by kernel_rfl) (by kernel_rfl) (by kernel_rfl) (fun _ _ _ h => h) (Or.inl ⟨by rfl, ?_⟩) (by assumption) ?_
      rotate_left
      · intro w hSw; (try dsimp only at hSw); go_simp; (try with_reducible rfl)
      try simp only [Act.put, List.setIfInBounds_toArray, List.set_cons_zero, List.set_cons_succ]
      refine wpAnyH_take (i := 7) (oi := ⟨some 23, _, _, _, _, _⟩) (v := (ruV r)) rfl (by kernel_rfl) (by kernel_rfl) (by kernel_rfl) (fun _ _ _ h => h) (yieldsIf_load_at (by rfl) 54 _ rfl (b.add (k * 10)) rfl (ruL r) _ (fun Y h => HY.out Y h) Tryz.underlying54 rfl info_ru) (by assumption) ?_
      try simp only [Act.put, List.setIfInBounds_toArray, List.set_cons_zero, List.set_cons_succ]
      refine wpAnyH_take (i := 8) (oi := ⟨some 24, _, _, _, _, _⟩) (v := ?_) rfl (by kernel_rfl) (by kernel_rfl) (by kernel_rfl) (fun _ _ _ h => h) (Or.inl ⟨by rfl, ?_⟩) (by assumption) ?_
      rotate_left
      · intro w hSw; have hne := ne1Ru r w; (try dsimp only at hSw); go_simp; (try with_reducible rfl)
      try simp only [Act.put, List.setIfInBounds_toArray, List.set_cons_zero, List.set_cons_succ]
      refine wpAnyH_done (by kernel_rfl) ?_ _
      have yq := hHeld
      clear hHeld
      go_wp2
      go_round
      case rel => exact ⟨k + 1, by go_num, by omega, yo.trans (yq.mono yo.size)⟩
      case measure => simp [intOf]; omega

    · obtain rfl : k = l.length := by omega
      have t1 : ¬ (l.length : Int) < (l.length : Int) := by omega
      go_wp2_with fail
      go_ret
      exact ⟨rfl, yo⟩
set_option maxRecDepth 100000 in
theorem eq1Fw (m : Fw) (w : World) : (Op.equalIn 10000 40 (fwV m) (fwV m)).run Tryz.prog w = .ok true w := by
  have hS : Tryz.prog.underlying 40 = some (.struct (Tryz.prog.fieldsOf 40)) := by kernel_rfl
  have hp : Tryz.prog.stoodInHeld 40 = false := by kernel_rfl
  have u0 := Tryz.underlying3
  have a0 := Tryz.isAgg3
  have z0 := Tryz.sizeOf3
  have u1 := Tryz.underlying24
  have a1 := Tryz.isAgg24
  have z1 := Tryz.sizeOf24
  have u2 := Tryz.underlying4
  have a2 := Tryz.isAgg4
  have z2 := Tryz.sizeOf4
  rw [show (10000 : Nat) = 9999 + 1 from rfl, run_equalIn_agg w 9999 40 _ _ hS hp]
  simp only [Program.fieldsOf, Tryz.underlying40]
  simp only [Op.eqFields]
  go_simp
  try simp
theorem ne1Fw (m : Fw) (w : World) : (binOp .neq 40 (fwV m) (fwV m)).run Tryz.prog w = .ok (.bool false) w := by
  rw [run_neq_struct, eq1Fw]; rfl
set_option maxRecDepth 100000 in
set_option maxHeartbeats 8000000 in
theorem ceqFw (l : List Fw) (A : Option Addr) (c N : Nat) (hN : l.length = N) (A' : Option Addr) (c' : Nat) (w : World) (h : FwsAt w l A c) (h' : FwsAt w l A' c') : Calls Tryz.prog 25 #[.slice A N c, .slice A' N c'] w fun e w' => e = .returned (.bool true) ∧ Below w.heap.size w w' := by
  subst hN
  have HC := Go.Lib.hid h
  have HD := Go.Lib.hid h'
  have hlc := h.len
  have hcc := h.cap
  have hld := h'.len
  have hcd := h'.cap
  clear h h'
  go_enter Tryz.func25, Tryz.ntmps25
  go_wp2_with fail
  go_loopw [13] (fun iv wr => ∃ k : Nat, iv = .int .i64 k ∧ k ≤ l.length ∧ Below w.heap.size w wr) (fun iv _ => l.length - (intOf iv).toNat)
  case atStart => exact ⟨0, rfl, by omega, Below.refl _ _⟩
  case round =>
    rename World => W
    obtain ⟨k, rfl, hk, yo⟩ := hrel
    have k0 : (0 : Int) ≤ (k : Int) := by omega
    by_cases hkl : k < l.length
    · have t1 : (k : Int) < (l.length : Int) := by omega
      obtain ⟨a, rfl, hcell⟩ := HC.out.cell hkl
      obtain ⟨b, rfl, dcell⟩ := HD.out.cell hkl
      obtain ⟨r, hr⟩ : ∃ r, l[k] = r := ⟨_, rfl⟩
      rw [hr] at hcell dcell
      have HX : Hid (∀ Y, Below W.heap.size W Y → ∀ j v, (fwL r)[j]? = some v → Y.cell? ((a.add (k * 5)).add j) = some v) := Go.Lib.hid (fun Y h => hcell Y (yo.trans (h.mono yo.size)))
      have HY : Hid (∀ Y, Below W.heap.size W Y → ∀ j v, (fwL r)[j]? = some v → Y.cell? ((b.add (k * 5)).add j) = some v) := Go.Lib.hid (fun Y h => dcell Y (yo.trans (h.mono yo.size)))
      clear hcell dcell hr
      go_upto_region 6 with fail
      try simp only [Act.put, List.setIfInBounds_toArray, List.set_cons_zero, List.set_cons_succ]
      refine wp_region_held_drew (S := fun Y => Below W.heap.size W Y) (by kernel_rfl) ?_ (fun hHeld => ?_)
      · exact below_drew (Below.refl _ _)
      refine wpAnyH_take (i := 0) (oi := ⟨some 16, _, _, _, _, _⟩) (v := ?_) rfl (by kernel_rfl) (by kernel_rfl) (by kernel_rfl) (fun _ _ _ h => h) (Or.inl ⟨by rfl, ?_⟩) (by assumption) ?_
      rotate_left
      · intro w hSw; (try dsimp only at hSw); go_simp; (try with_reducible rfl)
      try simp only [Act.put, List.setIfInBounds_toArray, List.set_cons_zero, List.set_cons_succ]
      refine wpAnyH_take (i := 1) (oi := ⟨some 17, _, _, _, _, _⟩) (v := ?_) rfl (by kernel_rfl) (by kernel_rfl) (by kernel_rfl) (fun _ _ _ h => h) (Or.inl ⟨by rfl, ?_⟩) (by assumption) ?_
      rotate_left
      · intro w hSw; (try dsimp only at hSw); go_simp; (try with_reducible rfl)
      try simp only [Act.put, List.setIfInBounds_toArray, List.set_cons_zero, List.set_cons_succ]
      refine wpAnyH_take (i := 2) (oi := ⟨some 18, _, _, _, _, _⟩) (v := ?_) rfl (by kernel_rfl) (by kernel_rfl) (by kernel_rfl) (fun _ _ _ h => h) (Or.inl ⟨by rfl, ?_⟩) (by assumption) ?_
      rotate_left
      · intro w hSw; (try dsimp only at hSw); go_simp; (try with_reducible rfl)
      try simp only [Act.put, List.setIfInBounds_toArray, List.set_cons_zero, List.set_cons_succ]
      refine wpAnyH_take (i := 3) (oi := ⟨some 19, _, _, _, _, _⟩) (v := (fwV r)) rfl (by kernel_rfl) (by kernel_rfl) (by kernel_rfl) (fun _ _ _ h => h) (yieldsIf_load_at (by rfl) 40 _ rfl (a.add (k * 5)) rfl (fwL r) _ (fun Y h => HX.out Y h) Tryz.underlying40 rfl info_fw) (by assumption) ?_
      try simp only [Act.put, List.setIfInBounds_toArray, List.set_cons_zero, List.set_cons_succ]
      refine wpAnyH_take (i := 4) (oi := ⟨some 20, _, _, _, _, _⟩) (v := ?_) rfl (by kernel_rfl) (by kernel_rfl) (by kernel_rfl) (fun _ _ _ h => h) (Or.inl ⟨by rfl, ?_⟩) (by assumption) ?_
      rotate_left
      · intro w hSw; (try dsimp only at hSw); go_simp; (try with_reducible rfl)
      try simp only [Act.put, List.setIfInBounds_toArray, List.set_cons_zero, List.set_cons_succ]
      refine wpAnyH_take (i := 5) (oi := ⟨some 21, _, _, _, _, _⟩) (v := ?_) rfl (by kernel_rfl) (by kernel_rfl) (by kernel_rfl) (fun _ _ _ h => h) (Or.inl ⟨by rfl, ?_⟩) (by assumption) ?_
      rotate_left
      · intro w hSw; (try dsimp only at hSw); go_simp; (try with_reducible rfl)
      try simp only [Act.put, List.setIfInBounds_toArray, List.set_cons_zero, List.set_cons_succ]
      refine wpAnyH_take (i := 6) (oi := ⟨some 22, _, _, _, _, _⟩) (v := ?_) rfl (by kernel_rfl) (by kernel_rfl) (by kernel_rfl) (fun _ _ _ h => h) (Or.inl ⟨by rfl, ?_⟩) (by assumption) ?_
      rotate_left
      · intro w hSw; (try dsimp only at hSw); go_simp; (try with_reducible rfl)
      try simp only [Act.put, List.setIfInBounds_toArray, List.set_cons_zero, List.set_cons_succ]
      refine wpAnyH_take (i := 7) (oi := ⟨some 23, _, _, _, _, _⟩) (v := (fwV r)) rfl (by kernel_rfl) (by kernel_rfl) (by kernel_rfl) (fun _ _ _ h => h) (yieldsIf_load_at (by rfl) 40 _ rfl (b.add (k * 5)) rfl (fwL r) _ (fun Y h => HY.out Y h) Tryz.underlying40 rfl info_fw) (by assumption) ?_
      try simp only [Act.put, List.setIfInBounds_toArray, List.set_cons_zero, List.set_cons_succ]
      refine wpAnyH_take (i := 8) (oi := ⟨some 24, _, _, _, _, _⟩) (v := ?_) rfl (by kernel_rfl) (by kernel_rfl) (by kernel_rfl) (fun _ _ _ h => h) (Or.inl ⟨by rfl, ?_⟩) (by assumption) ?_
      rotate_left
      · intro w hSw; have hne := ne1Fw r w; (try dsimp only at hSw); go_simp; (try with_reducible rfl)
      try simp only [Act.put, List.setIfInBounds_toArray, List.set_cons_zero, List.set_cons_succ]
      refine wpAnyH_done (by kernel_rfl) ?_ _
      have yq := hHeld
      clear hHeld
      go_wp2
      go_round
      case rel => exact ⟨k + 1, by go_num, by omega, yo.trans (yq.mono yo.size)⟩
      case measure => simp [intOf]; omega

    · obtain rfl : k = l.length := by omega
      have t1 : ¬ (l.length : Int) < (l.length : Int) := by omega
      go_wp2_with fail
      go_ret
      exact ⟨rfl, yo⟩
end Go.Proofs.YtoghcefamoefpaaGreatDoor

/- The landed conf: Same, of two that are one. -/
namespace Go.Proofs.YtoghcefamoefpaaGreatDoor
open Go.ChangeShapes Go.WideShapes Go.ChangeAt Go.RowKit
set_option linter.unusedVariables false
set_option linter.unusedSimpArgs false

set_option maxRecDepth 100000 in
set_option maxHeartbeats 8000000 in
theorem csame15 : SameC15 := by
  intro c p q _ w h h'
  obtain ⟨routes, rules, outside, pub, lo, hi, fwds, tcp, other, budget⟩ := c
  obtain ⟨A1, c1, A2, c2, A3, c3⟩ := p
  obtain ⟨B1, e1, B2, e2, B3, e3⟩ := q
  have HC := Go.Lib.hid h
  have HD := Go.Lib.hid h'
  clear h h'
  have y0 : Below w.heap.size w ((w.alloc (oCf ⟨routes, rules, outside, pub, lo, hi, fwds, tcp, other, budget⟩ ⟨A1, c1, A2, c2, A3, c3⟩)).alloc (oCf ⟨routes, rules, outside, pub, lo, hi, fwds, tcp, other, budget⟩ ⟨B1, e1, B2, e2, B3, e3⟩)) := below_alloc (below_alloc (Below.refl _ _) (Nat.le_refl _) _) (by simp) _
  have h1 := (Bxo.made w 27 (cfL ⟨routes, rules, outside, pub, lo, hi, fwds, tcp, other, budget⟩ ⟨A1, c1, A2, c2, A3, c3⟩)).alloc (oCf ⟨routes, rules, outside, pub, lo, hi, fwds, tcp, other, budget⟩ ⟨B1, e1, B2, e2, B3, e3⟩)
  have h2 : Bxo ((w.alloc (oCf ⟨routes, rules, outside, pub, lo, hi, fwds, tcp, other, budget⟩ ⟨A1, c1, A2, c2, A3, c3⟩)).alloc (oCf ⟨routes, rules, outside, pub, lo, hi, fwds, tcp, other, budget⟩ ⟨B1, e1, B2, e2, B3, e3⟩)) (w.heap.size + 1) 27 (cfL ⟨routes, rules, outside, pub, lo, hi, fwds, tcp, other, budget⟩ ⟨B1, e1, B2, e2, B3, e3⟩) := by
    have := Bxo.made (w.alloc (oCf ⟨routes, rules, outside, pub, lo, hi, fwds, tcp, other, budget⟩ ⟨A1, c1, A2, c2, A3, c3⟩)) 27 (cfL ⟨routes, rules, outside, pub, lo, hi, fwds, tcp, other, budget⟩ ⟨B1, e1, B2, e2, B3, e3⟩)
    simpa using this
  go_enter Tryz.func9, Tryz.ntmps9
  go_upto_region 1 with fail
  generalize ((w.alloc (oCf ⟨routes, rules, outside, pub, lo, hi, fwds, tcp, other, budget⟩ ⟨A1, c1, A2, c2, A3, c3⟩)).alloc (oCf ⟨routes, rules, outside, pub, lo, hi, fwds, tcp, other, budget⟩ ⟨B1, e1, B2, e2, B3, e3⟩)) = W at *
  generalize w.heap.size = g at h1 h2 ⊢
  have H1 := Go.Lib.hid h1
  have H2 := Go.Lib.hid h2
  have a0 := h1.cell 0 rfl
  have b0 := h2.cell 0 rfl
  dsimp only at a0 b0
  clear h1 h2
  go_cut [5] (fun s wx => s = .bool true ∧ Below W.heap.size W wx)
  case first =>
    go_wp2_with (first
      | (go_at_call 23; refine (ceqRt routes A1 c1 _ rfl B1 e1 _ (HC.out.at y0).routes (HD.out.at y0).routes).mono ?_; rintro e w3 ⟨rfl, y3⟩; have x3 := y0.trans (y3.mono y0.size); have k1 := (H1.out.keep y3 H1.out.lt).cell 1 rfl; have l1 := (H2.out.keep y3 H2.out.lt).cell 1 rfl; dsimp only at k1 l1; dsimp only)
      | (go_at_call 24; refine (ceqRu rules A2 c2 _ rfl B2 e2 _ (HC.out.at x3).rules (HD.out.at x3).rules).mono ?_; rintro e w4 ⟨rfl, y4⟩; have y34 := y3.trans (y4.mono y3.size); have x4 := x3.trans (y4.mono x3.size); have k6 := (H1.out.keep y34 H1.out.lt).cell 6 rfl; have l6 := (H2.out.keep y34 H2.out.lt).cell 6 rfl; dsimp only at k6 l6; dsimp only)
      | (go_at_call 25; refine (ceqFw fwds A3 c3 _ rfl B3 e3 _ (HC.out.at x4).fwds (HD.out.at x4).fwds).mono ?_; rintro e w5 ⟨rfl, y5⟩; have y35 := y34.trans (y5.mono y34.size); dsimp only))
    go_meet
    exact ⟨rfl, y35⟩
  case rest =>
    obtain ⟨rfl, yc⟩ := hcut
    rename World => W2
    clear a0 b0
    have x2 := y0.trans (yc.mono y0.size)
    have h1 := H1.out.keep yc H1.out.lt
    have h2 := H2.out.keep yc H2.out.lt
    have k2 := h1.cell 2 rfl
    have k3 := h1.cell 3 rfl
    have k4 := h1.cell 4 rfl
    have k5 := h1.cell 5 rfl
    have k7 := h1.cell 7 rfl
    have k8 := h1.cell 8 rfl
    have k9 := h1.cell 9 rfl
    have l2 := h2.cell 2 rfl
    have l3 := h2.cell 3 rfl
    have l4 := h2.cell 4 rfl
    have l5 := h2.cell 5 rfl
    have l7 := h2.cell 7 rfl
    have l8 := h2.cell 8 rfl
    have l9 := h2.cell 9 rfl
    dsimp only at k2 k3 k4 k5 k7 k8 k9 l2 l3 l4 l5 l7 l8 l9
    clear h1 h2
    go_wp2_with fail
    go_ret
    exact ⟨rfl, x2⟩
end Go.Proofs.YtoghcefamoefpaaGreatDoor

/- The landed conf: a strings.Builder is written. -/
namespace Go.Proofs.YtoghcefamoefpaaGreatDoor
open Go.ChangeShapes Go.WideShapes Go.ChangeAt Go.RowKit
set_option linter.unusedVariables false
set_option linter.unusedSimpArgs false

theorem info_bld : (Tryz.prog.info? 44).map (·.size) = some 2 := by kernel_rfl
theorem lies_bld : liesAt Tryz.prog Tryz.prog.depth 44 (2 / Tryz.prog.cellsOf 44) 0 44 1 = true := by kernel_rfl
theorem info_byteB : (Tryz.prog.info? 5).map (fun i => (i.zero, i.size, i.bytes)) = some (some (.int .u8 0), 1, 1) := by kernel_rfl
set_option maxRecDepth 100000 in
set_option maxHeartbeats 1000000 in
theorem ccopy_used (b : Nat) (w : World) (h0 : w.cell? ⟨b, 0, none⟩ = some (.pointer (some ⟨b, 0, none⟩))) :
    Calls Tryz.prog 31 #[.pointer (some ⟨b, 0, none⟩)] w fun e w' => e = .returned (.tuple #[]) ∧ w' = w := by
  obtain ⟨j, hj, _⟩ := Option.map_eq_some_iff.1 info_bld
  go_enter Tryz.func31, Tryz.ntmps31
  go_wp2
  rw [Lib.run_neq_ptr_same w _ Tryz.underlying41 hj]
  go_wp2
  go_end0
  exact ⟨rfl, rfl⟩
set_option maxRecDepth 100000 in
set_option maxHeartbeats 1000000 in
theorem ccopy_fresh (b : Nat) (w : World) (h0 : w.cell? ⟨b, 0, none⟩ = some (.pointer none)) (hsh : w.shape? b = some (44, 2)) (hfz : w.frozen? ⟨b, 0, none⟩ = false) :
    Calls Tryz.prog 31 #[.pointer (some ⟨b, 0, none⟩)] w fun e w' => e = .returned (.tuple #[]) ∧ w' = w.setCell ⟨b, 0, none⟩ (.pointer (some ⟨b, 0, none⟩)) := by
  obtain ⟨j, hj, hjs⟩ := Option.map_eq_some_iff.1 info_bld
  go_enter Tryz.func31, Tryz.ntmps31
  go_wp2
  rw [Lib.run_to_unsafe w ⟨b, 0, none⟩ Tryz.underlying41 Tryz.underlying93 hj (by rw [hjs]; decide) hsh (Nat.zero_lt_succ 1)]
  simp only [Result.andThen]
  rw [Oper.upon_value]
  go_wp2
  rw [run_callFunc_extern Tryz.func45 (by kernel_rfl) (by kernel_rfl) (by kernel_rfl) (e := Extern.AbiNoEscape.same) (by kernel_rfl)]
  rw [Lib.run_noEscape]
  simp only [Result.andThen]
  rw [Oper.upon_value]
  go_wp2
  rw [Lib.run_from_unsafe w ⟨b, 0, none⟩ Tryz.underlying93 Tryz.underlying41 hj hsh lies_bld]
  simp only [Result.andThen]
  rw [Oper.upon_value]
  go_wp2
  go_end0
  exact ⟨rfl, rfl⟩
/-- a builder that lies at b and holds these bytes. -/
def Wr (b : Nat) (l : Tx) (w : World) : Prop := Lib.IsBuilderF 44 5 b b (Lib.byteCells l) w
theorem ccopy15 (b : Nat) (l : Tx) (w : World) (h : Wr b l w) :
    Calls Tryz.prog 31 #[.pointer (some ⟨b, 0, none⟩)] w fun e w' => e = .returned (.tuple #[]) ∧ Lib.BuilderAtF 44 5 b b (.pointer (some ⟨b, 0, none⟩)) (Lib.byteCells l) w' ∧ Below b w w' ∧ Lib.OthersKept 5 (some b) w w' := by
  rcases h with h | h
  · refine (ccopy_fresh b w h.cell0 h.shape h.frozen0).mono ?_
    rintro e w' ⟨rfl, rfl⟩
    exact ⟨rfl, h.used _, (Below.refl b w).setCell (p := ⟨b, 0, none⟩) h.1 _, (Lib.OthersKept.refl _ _ w).setCell ⟨b, 0, none⟩ rfl _⟩
  · refine (ccopy_used b w h.cell0).mono ?_
    rintro e w' ⟨rfl, rfl⟩
    exact ⟨rfl, h, Below.refl b _, Lib.OthersKept.refl _ _ _⟩
set_option maxRecDepth 100000 in
set_option maxHeartbeats 2000000 in
theorem cwrite15 (b : Nat) (l : Tx) (s : ByteArray) (w : World) (h : Wr b l w) (hlen : l.length + s.size ≤ 1000000) (hb : b ≤ w.heap.size) :
    Calls Tryz.prog 12 #[.pointer (some ⟨b, 0, none⟩), .string s] w fun e w' => e = .returned (.tuple #[.int .i64 s.size, .nilIface]) ∧ Wr b (l ++ txB s) w' ∧ Below b w w' ∧ Lib.OthersKept 5 (some b) w w' := by
  obtain ⟨i0, hi, hz0, hz1, hz2⟩ := info_parts info_byteB
  have hbl := Lib.byteCells_length l
  go_enter Tryz.func12, Tryz.ntmps12
  go_wp2_with (go_at_call 31; refine (ccopy15 b l _ h).mono ?_)
  rintro e w1 ⟨rfl, h1, hb1, hk1⟩
  obtain ⟨hB, v, hbk, hown, hne⟩ := h1
  have c0 : w1.cell? ⟨b, 0, none⟩ = some (.pointer (some ⟨b, 0, none⟩)) := by rw [Lib.cell_of_heap hbk]; rfl
  have c1 : w1.cell? ⟨b, 1, none⟩ = some v := by rw [Lib.cell_of_heap hbk]; rfl
  go_wp2_with (at_builtin; refine Lib.wpList_append_own_stringF _ rfl _ _ 42 9 rfl b 5 i0 Tryz.underlying42 Tryz.underlying9 hi hz0 hz1 hz2 _ _ _ rfl hown s rfl ?c3 ?c4 ?c5 ?_)
  case c3 => unfold maxLen; omega
  case c4 => omega
  case c5 => have := hb1.size; omega
  intro v' w2 hown' hgrow _
  have hlt : b < w1.heap.size := by
    rcases Nat.lt_or_ge b w1.heap.size with h' | h'
    · exact h'
    · simp [Array.getElem?_eq_none h'] at hbk
  have hb2 : w2.heap[b]? = some (.cells #[.pointer (some ⟨b, 0, none⟩), v] 44 (0, 0)) := by
    rw [hgrow.block b hlt (fun e => hne e.symm)]
    exact hbk
  have d0 : w2.cell? ⟨b, 0, none⟩ = some (.pointer (some ⟨b, 0, none⟩)) := by rw [Lib.cell_of_heap hb2]; rfl
  have d1 : w2.cell? ⟨b, 1, none⟩ = some v := by rw [Lib.cell_of_heap hb2]; rfl
  have f1 : w2.frozen? ⟨b, 1, none⟩ = false := Lib.frozen_of_heap hb2 1
  obtain ⟨ao, n', cap, rfl⟩ : ∃ ao n' cap, v' = .slice ao n' cap := by
    rcases hown'.2 with ⟨hv, _⟩ | ⟨g, cap, cur, fz, hv, _⟩
    · exact ⟨_, _, _, hv⟩
    · exact ⟨_, _, _, hv⟩
  go_wp2
  go_ret2
  have he : Lib.byteCells (l ++ txB s) = Lib.byteCells l ++ Lib.strCells s := by
    rw [Lib.strCells_eq]
    unfold Lib.byteCells txB
    rw [List.map_append]
  refine ⟨rfl, .inr ?_, (hb1.grown hgrow (by have := hb1.size; omega) (fun k hk => (hown.lt k hk).1)).setCell (p := ⟨b, 1, none⟩) hB _, (hk1.grown hgrow (Lib.ownsRowF_kind hown)).setCell ⟨b, 1, none⟩ rfl _⟩
  rw [he]
  exact Lib.BuilderAtF.put (T := 44) (e := 5) hB hb2 (bs' := Lib.byteCells l ++ Lib.strCells s) (by rw [List.length_append, Lib.strCells_length, hbl]; exact hown') (by decide)
theorem Wr.keep {b : Nat} {l : Tx} {w w' : World} (h : Wr b l w) (y : Below w.heap.size w w') : Wr b l w' := by
  have one : ∀ p, Lib.BuilderAtF 44 5 b b p (Lib.byteCells l) w → Lib.BuilderAtF 44 5 b b p (Lib.byteCells l) w' := fun p hb => by
    have hlt := hb.lt
    obtain ⟨h1, v, h2, h3, h4⟩ := hb
    refine ⟨h1, v, (y.block _ hlt).trans h2, ⟨h3.1, ?_⟩, h4⟩
    rcases h3.2 with hn | ⟨g, cap, cur, fz, hv, hb, hg, rest⟩
    · exact .inl hn
    · exact .inr ⟨g, cap, cur, fz, hv, hb, (y.block _ (Array.getElem?_eq_some_iff.1 hg).1).trans hg, rest⟩
  exact h.elim (fun x => .inl (one _ x)) (fun x => .inr (one _ x))
theorem Wr.lt {b : Nat} {l : Tx} {w : World} (h : Wr b l w) : b < w.heap.size := h.elim (fun x => x.lt) (fun x => x.lt)
theorem Wr.new (w : World) : Wr w.heap.size [] (w.alloc (.cells #[.pointer none, .slice none 0 0] 44)) := Lib.IsBuilderF.of (Lib.fresh_isBuilder _ _ w)
theorem cstr15 (b : Nat) (l : Tx) (w : World) (h : Wr b l w) : Calls Tryz.prog 19 #[.pointer (some ⟨b, 0, none⟩)] w fun e w' => (∃ s : ByteArray, e = .returned (.string s) ∧ txB s = l) ∧ Below b w w' :=
  (Tryz.Builder_String_any_k b b l w h (Nat.le_of_lt h.lt)).mono fun e w' ⟨he, _, hb, _⟩ => ⟨⟨_, he, txB_mk _⟩, hb⟩
end Go.Proofs.YtoghcefamoefpaaGreatDoor

/- The landed conf: a number, a line of words as a text. -/
namespace Go.Proofs.YtoghcefamoefpaaGreatDoor
open Go.ChangeShapes Go.WideShapes Go.ChangeAt Go.RowKit
set_option linter.unusedVariables false
set_option linter.unusedSimpArgs false

theorem dec_nat (n : Nat) : Lib.decDigits n = natD n := by
  induction n using Nat.strongRecOn with
  | ind n ih =>
    by_cases h : n < 10
    · rw [natD_small h, Lib.decDigits, dif_pos h]
    · rw [natD_big h, Lib.decDigits, dif_neg h, ih (n / 10) (by omega)]
theorem itoa_num (n : Int) : Lib.itoa n = numT n := by
  unfold Lib.itoa numT
  rw [dec_nat, dec_nat]
  split
  · rfl
  · rw [show n.toNat = n.natAbs by omega]
def I64C (n : Int) : Prop := -9223372036854775808 ≤ n ∧ n ≤ 9223372036854775807
theorem citoa15 (n : Int) (hn : I64C n) (w : World) (ht : Tb w) : Calls Tryz.prog 15 #[.int .i64 n] w fun e w' => (∃ s : ByteArray, e = .returned (.string s) ∧ txB s = numT n) ∧ Below w.heap.size w w' := by
  refine (Tryz.strconv_Itoa n hn.1 hn.2 w ht.tab).mono fun e w' ⟨he, k, os, hw⟩ => ⟨⟨_, he, by rw [txB_mk, itoa_num]⟩, ?_⟩
  subst hw
  exact Lib.below_grow _ w (Nat.le_refl _) k os
/-- words, with blanks between. -/
def rowT (l : List Tx) : Tx := Lib.join l [32] ++ [10]
theorem cjoin15 (g cap n : Nat) (xs : List ByteArray) (sep : ByteArray) (hn : xs.length = n) (w : World) (hc : ∀ (j : Nat) x, xs[j]? = some x → w.cell? ⟨g, 0 + j, none⟩ = some (.string x)) (hg : g < w.heap.size) (h20 : n ≤ 20) (hcap : n ≤ cap) (hl : (Lib.join (xs.map txB) (txB sep)).length ≤ 100000) :
    Calls Tryz.prog 32 #[.slice (some ⟨g, 0, none⟩) n cap, .string sep] w fun e w' => (∃ s : ByteArray, e = .returned (.string s) ∧ txB s = Lib.join (xs.map txB) (txB sep) ∧ s.size ≤ 100000) ∧ Below w.heap.size w w' := by
  subst hn
  refine (Tryz.strings_Join g 0 cap xs sep w hc hg (by omega) hcap (by show (Lib.join (xs.map txB) (txB sep)).length ≤ _; omega)).mono fun e w' ⟨he, y⟩ => ⟨⟨_, he, txB_mk _, ?_⟩, y⟩
  rw [← txB_len, txB_mk]
  exact hl
set_option maxRecDepth 100000 in
set_option maxHeartbeats 1000000 in
theorem crow15 (g cap n : Nat) (xs : List ByteArray) (hn : xs.length = n) (w : World) (hc : ∀ (j : Nat) x, xs[j]? = some x → w.cell? ⟨g, 0 + j, none⟩ = some (.string x)) (hg : g < w.heap.size) (h20 : n ≤ 20) (hcap : n ≤ cap) (hl : (Lib.join (xs.map txB) [32]).length ≤ 100000) :
    Calls Tryz.prog 13 #[.slice (some ⟨g, 0, none⟩) n cap] w fun e w' => (∃ s : ByteArray, e = .returned (.string s) ∧ txB s = rowT (xs.map txB)) ∧ Below w.heap.size w w' := by
  subst hn
  have HC := Go.Lib.hid hc
  have HL := Go.Lib.hid hl
  clear hc hl
  go_enter Tryz.func13, Tryz.ntmps13
  go_wp2_with (go_at_call 32; refine (cjoin15 g cap _ xs { data := #[32] } rfl _ HC.out hg h20 hcap HL.out).mono ?_)
  rintro e w2 ⟨⟨s, rfl, hs, hz⟩, y2⟩
  have hz2 : ¬ 9223372036854775807 < s.size + 1 := by omega
  dsimp only
  go_wp2
  go_ret
  refine ⟨⟨_, rfl, ?_⟩, y2⟩
  rw [txB_app, hs]
  rfl
theorem crowz15 (g cap n : Nat) (xs : List ByteArray) (hn : xs.length = n) (w : World) (hc : ∀ (j : Nat) x, xs[j]? = some x → w.cell? ⟨g, 0 + j, none⟩ = some (.string x)) (hg : g < w.heap.size) (h20 : n ≤ 20) (hcap : n ≤ cap) (t : Tx) (ht : rowT (xs.map txB) = t ++ [10]) (hl : t.length ≤ 100000) :
    Calls Tryz.prog 13 #[.slice (some ⟨g, 0, none⟩) n cap] w fun e w' => (∃ s : ByteArray, e = .returned (.string s) ∧ txB s = t ++ [10] ∧ s.size ≤ t.length + 1) ∧ Below w.heap.size w w' := by
  have h2 : Lib.join (xs.map txB) [32] = t := List.append_cancel_right ht
  refine (crow15 g cap n xs hn w hc hg h20 hcap (by rw [h2]; exact hl)).mono fun e w' ⟨⟨s, he, hs⟩, y⟩ => ⟨⟨s, he, hs.trans ht, ?_⟩, y⟩
  rw [← txB_len, hs, ht]
  simp
end Go.Proofs.YtoghcefamoefpaaGreatDoor

/- The landed conf: an address, a net as a text. -/
namespace Go.Proofs.YtoghcefamoefpaaGreatDoor
open Go.ChangeShapes Go.WideShapes Go.ChangeAt Go.RowKit
set_option linter.unusedVariables false
set_option linter.unusedSimpArgs false

theorem info_str : (Tryz.prog.info? 9).map (fun i => (i.zero, i.size, i.bytes)) = some (some (.string ⟨#[]⟩), 1, 16) := by kernel_rfl
def wordsA (a : Int) : List Tx := [numT (a / 16777216), numT (a / 65536 % 256), numT (a / 256 % 256), numT (a % 256)]
theorem join_addr (a : Int) : Lib.join (wordsA a) [46] = addrT a := by
  unfold wordsA addrT
  rw [Lib.join_cons]
  simp [Lib.joinTail]
theorem and255 (x : Int) (h0 : 0 ≤ x) (h1 : x < 4294967296) : bits BinOp.and IntKind.u32 x 255 = x % 256 := by
  rw [u32_and x 255 h0 h1 (by omega) (by omega), show (255 : Int).toNat = 2 ^ 8 - 1 from rfl, Nat.and_two_pow_sub_one_eq_mod]
  omega
theorem num_byte {n : Int} (h : 0 ≤ n ∧ n ≤ 255) : (numT n).length ≤ 3 := by
  unfold numT
  rw [if_neg (by omega)]
  exact natD_len (k := 2) (by omega)
theorem addrT_len {a : Int} (h : 0 ≤ a ∧ a ≤ 4294967295) : (addrT a).length ≤ 15 := by
  have h1 := num_byte (n := a / 16777216) (by omega)
  have h2 := num_byte (n := a / 65536 % 256) (by omega)
  have h3 := num_byte (n := a / 256 % 256) (by omega)
  have h4 := num_byte (n := a % 256) (by omega)
  unfold addrT
  simp only [List.length_append, List.length_cons]
  omega
theorem own_at {w w' : World} {base : Nat} {e : TypeId} {size n c : Nat} {A : Option Addr} {xs : List Value} (h : w.ownsRow base e size (.slice A n c) n xs) (y : Below w.heap.size w w') : w'.ownsRow base e size (.slice A n c) n xs :=
  own_keepA h (fun g hg => by
    rcases own_addr h with ⟨rfl, _⟩ | ⟨g', rfl, _, h2⟩
    · cases hg
    · injection hg with hg
      subst hg
      exact y.block _ h2)
theorem sts_own {w : World} {base : Nat} {e : TypeId} {A : Option Addr} {n c : Nat} {xs : List ByteArray} (h : w.ownsRow base e 1 (.slice A n c) n (xs.map Value.string)) (h0 : 0 < n) : ∃ g, A = some ⟨g, 0, none⟩ ∧ g < w.heap.size ∧ xs.length = n ∧ n ≤ c ∧ ∀ (j : Nat) x, xs[j]? = some x → w.cell? ⟨g, 0 + j, none⟩ = some (.string x) := by
  rcases own_addr h with ⟨_, hz, _⟩ | ⟨g, rfl, _, hg⟩
  · omega
  · have hl : xs.length = n := by
      have := h.1
      rw [List.length_map] at this
      omega
    refine ⟨g, rfl, hg, hl, (own_cap h).1, fun j x hj => ?_⟩
    rcases own_rd h with h1 | ⟨ad, e, hc⟩
    · rw [List.map_eq_nil_iff] at h1
      subst h1
      simp at hj
    · cases e
      have := hc j (.string x) (by rw [List.getElem?_map, hj]; rfl)
      rwa [Addr.add_mid] at this
set_option maxRecDepth 100000 in
set_option maxHeartbeats 4000000 in
theorem caddrT15 (a : Int) (ha : 0 ≤ a ∧ a ≤ 4294967295) (w : World) (ht : Tb w) : Calls Tryz.prog 17 #[.int .u32 a] w fun e w' => (∃ s : ByteArray, e = .returned (.string s) ∧ txB s = addrT a ∧ s.size ≤ 15) ∧ Below w.heap.size w w' := by
  obtain ⟨i0, hi, hz0, hz1, hz2⟩ := info_parts info_str
  have HT := Go.Lib.hid ht
  have a0 := ha.1
  have a1 := ha.2
  clear ht
  go_enter Tryz.func17, Tryz.ntmps17
  go_wp2_with fail
  go_loopw [3, 4] (fun v i wr => ∃ k : Nat, k ≤ 4 ∧ i = .int .i64 (24 - 8 * (k : Int)) ∧ (∃ (A : Option Addr) (c : Nat) (xs : List ByteArray), v = .slice A k c ∧ wr.ownsRow w.heap.size 9 1 (.slice A k c) k (xs.map Value.string) ∧ xs.map txB = (wordsA a).take k) ∧ Below w.heap.size w wr) (fun _ i _ => (intOf i + 8).toNat)
  case atStart => exact ⟨0, by omega, rfl, ⟨none, 0, [], rfl, by simpa using World.ownsRow_nil _ _ _ _, rfl⟩, Below.refl _ _⟩
  case round =>
    obtain ⟨k, hk, rfl, ⟨A, c, xs, rfl, hown, hx⟩, yo⟩ := hrel
    have HO := Go.Lib.hid hown
    have HX := Go.Lib.hid hx
    have HW := Go.Lib.hid (HT.out.at yo)
    clear hown hx
    rcases (show k = 0 ∨ k = 1 ∨ k = 2 ∨ k = 3 ∨ k = 4 by omega) with rfl | rfl | rfl | rfl | rfl
    · have e1 : (24 : Int) - 8 * ((0 : Nat) : Int) = 24 := rfl
      rw [e1]
      obtain ⟨y, hy⟩ : ∃ y, (a / 16777216) % 256 = y := ⟨_, rfl⟩
      have e2 : bits BinOp.and IntKind.u32 (a / 16777216) 255 = y := by rw [and255 (a / 16777216) (by omega) (by omega), hy]
      have e3 : wrap64 y = y := IntWalk.wrap64_in y ⟨by omega, by omega⟩
      have HY : Hid (a / 16777216 = y) := Go.Lib.hid (by omega)
      have HI : Hid (I64C y) := Go.Lib.hid ⟨by omega, by omega⟩
      clear hy
      go_wp2_with (first
        | (go_at_call 15; refine (citoa15 y HI.out _ HW.out).mono ?_; rintro e w2 ⟨⟨s, rfl, hs⟩, y2⟩; dsimp only; have HS := Go.Lib.hid hs; have hown2 := own_at HO.out y2; clear hs)
        | (at_builtin; refine wpList_append_own _ rfl _ _ 73 rfl w.heap.size 9 i0 (.string ⟨#[]⟩) 1 16 Tryz.underlying73 hi hz0 hz1 hz2 rfl (by decide) _ _ _ rfl (hown2.alloc _) ⟨w2.heap.size, 0, none⟩ 1 1 [.string s] rfl rfl ?c1 ?c2 ?c3 ?c4 ?c5 ?_))
      case c1 =>
        intro j u hj
        match j, hj with
        | 0, hj => simp at hj; subst hj; simp [Addr.add]
      case c2 => intro u hu; simp at hu; subst hu; rfl
      case c3 => unfold maxLen; omega
      case c4 => omega
      case c5 => have := yo.size; have := y2.size; simp; omega
      intro v1 w1 hown1 hg1 _
      have hb2 : Below w.heap.size w w2 := yo.trans (y2.mono yo.size)
      have hbk := hb2.size
      obtain ⟨A1, c1, rfl⟩ : ∃ A1 c1, v1 = .slice A1 1 c1 := by
        rcases hown1.2 with ⟨hv, hz⟩ | ⟨g, cap, cur, hv, _⟩
        · exact absurd hz (by decide)
        · exact ⟨_, _, hv⟩
      go_wp2
      go_roundw
      case rel =>
        refine ⟨1, by omega, by go_num, ⟨A1, c1, xs ++ [s], rfl, by rw [List.map_append]; exact hown1, ?_⟩, (hb2.alloc hbk _).grown hg1 (by simp; omega) (fun q hq => (hown2.lt q hq).1)⟩
        rw [List.map_append, HX.out]
        show _ ++ [txB s] = _
        rw [HS.out, ← HY.out]
        rfl
      case measure => simp [intOf]
    · have e1 : (24 : Int) - 8 * ((1 : Nat) : Int) = 16 := rfl
      rw [e1]
      obtain ⟨y, hy⟩ : ∃ y, (a / 65536) % 256 = y := ⟨_, rfl⟩
      have e2 : bits BinOp.and IntKind.u32 (a / 65536) 255 = y := by rw [and255 (a / 65536) (by omega) (by omega), hy]
      have e3 : wrap64 y = y := IntWalk.wrap64_in y ⟨by omega, by omega⟩
      have HY : Hid (a / 65536 % 256 = y) := Go.Lib.hid (by omega)
      have HI : Hid (I64C y) := Go.Lib.hid ⟨by omega, by omega⟩
      clear hy
      go_wp2_with (first
        | (go_at_call 15; refine (citoa15 y HI.out _ HW.out).mono ?_; rintro e w2 ⟨⟨s, rfl, hs⟩, y2⟩; dsimp only; have HS := Go.Lib.hid hs; have hown2 := own_at HO.out y2; clear hs)
        | (at_builtin; refine wpList_append_own _ rfl _ _ 73 rfl w.heap.size 9 i0 (.string ⟨#[]⟩) 1 16 Tryz.underlying73 hi hz0 hz1 hz2 rfl (by decide) _ _ _ rfl (hown2.alloc _) ⟨w2.heap.size, 0, none⟩ 1 1 [.string s] rfl rfl ?c1 ?c2 ?c3 ?c4 ?c5 ?_))
      case c1 =>
        intro j u hj
        match j, hj with
        | 0, hj => simp at hj; subst hj; simp [Addr.add]
      case c2 => intro u hu; simp at hu; subst hu; rfl
      case c3 => unfold maxLen; omega
      case c4 => omega
      case c5 => have := yo.size; have := y2.size; simp; omega
      intro v1 w1 hown1 hg1 _
      have hb2 : Below w.heap.size w w2 := yo.trans (y2.mono yo.size)
      have hbk := hb2.size
      obtain ⟨A1, c1, rfl⟩ : ∃ A1 c1, v1 = .slice A1 2 c1 := by
        rcases hown1.2 with ⟨hv, hz⟩ | ⟨g, cap, cur, hv, _⟩
        · exact absurd hz (by decide)
        · exact ⟨_, _, hv⟩
      go_wp2
      go_roundw
      case rel =>
        refine ⟨2, by omega, by go_num, ⟨A1, c1, xs ++ [s], rfl, by rw [List.map_append]; exact hown1, ?_⟩, (hb2.alloc hbk _).grown hg1 (by simp; omega) (fun q hq => (hown2.lt q hq).1)⟩
        rw [List.map_append, HX.out]
        show _ ++ [txB s] = _
        rw [HS.out, ← HY.out]
        rfl
      case measure => simp [intOf]
    · have e1 : (24 : Int) - 8 * ((2 : Nat) : Int) = 8 := rfl
      rw [e1]
      obtain ⟨y, hy⟩ : ∃ y, (a / 256) % 256 = y := ⟨_, rfl⟩
      have e2 : bits BinOp.and IntKind.u32 (a / 256) 255 = y := by rw [and255 (a / 256) (by omega) (by omega), hy]
      have e3 : wrap64 y = y := IntWalk.wrap64_in y ⟨by omega, by omega⟩
      have HY : Hid (a / 256 % 256 = y) := Go.Lib.hid (by omega)
      have HI : Hid (I64C y) := Go.Lib.hid ⟨by omega, by omega⟩
      clear hy
      go_wp2_with (first
        | (go_at_call 15; refine (citoa15 y HI.out _ HW.out).mono ?_; rintro e w2 ⟨⟨s, rfl, hs⟩, y2⟩; dsimp only; have HS := Go.Lib.hid hs; have hown2 := own_at HO.out y2; clear hs)
        | (at_builtin; refine wpList_append_own _ rfl _ _ 73 rfl w.heap.size 9 i0 (.string ⟨#[]⟩) 1 16 Tryz.underlying73 hi hz0 hz1 hz2 rfl (by decide) _ _ _ rfl (hown2.alloc _) ⟨w2.heap.size, 0, none⟩ 1 1 [.string s] rfl rfl ?c1 ?c2 ?c3 ?c4 ?c5 ?_))
      case c1 =>
        intro j u hj
        match j, hj with
        | 0, hj => simp at hj; subst hj; simp [Addr.add]
      case c2 => intro u hu; simp at hu; subst hu; rfl
      case c3 => unfold maxLen; omega
      case c4 => omega
      case c5 => have := yo.size; have := y2.size; simp; omega
      intro v1 w1 hown1 hg1 _
      have hb2 : Below w.heap.size w w2 := yo.trans (y2.mono yo.size)
      have hbk := hb2.size
      obtain ⟨A1, c1, rfl⟩ : ∃ A1 c1, v1 = .slice A1 3 c1 := by
        rcases hown1.2 with ⟨hv, hz⟩ | ⟨g, cap, cur, hv, _⟩
        · exact absurd hz (by decide)
        · exact ⟨_, _, hv⟩
      go_wp2
      go_roundw
      case rel =>
        refine ⟨3, by omega, by go_num, ⟨A1, c1, xs ++ [s], rfl, by rw [List.map_append]; exact hown1, ?_⟩, (hb2.alloc hbk _).grown hg1 (by simp; omega) (fun q hq => (hown2.lt q hq).1)⟩
        rw [List.map_append, HX.out]
        show _ ++ [txB s] = _
        rw [HS.out, ← HY.out]
        rfl
      case measure => simp [intOf]
    · have e1 : (24 : Int) - 8 * ((3 : Nat) : Int) = 0 := rfl
      rw [e1]
      obtain ⟨y, hy⟩ : ∃ y, (a) % 256 = y := ⟨_, rfl⟩
      have e2 : bits BinOp.and IntKind.u32 (a) 255 = y := by rw [and255 (a) (by omega) (by omega), hy]
      have e3 : wrap64 y = y := IntWalk.wrap64_in y ⟨by omega, by omega⟩
      have HY : Hid (a % 256 = y) := Go.Lib.hid (by omega)
      have HI : Hid (I64C y) := Go.Lib.hid ⟨by omega, by omega⟩
      clear hy
      go_wp2_with (first
        | (go_at_call 15; refine (citoa15 y HI.out _ HW.out).mono ?_; rintro e w2 ⟨⟨s, rfl, hs⟩, y2⟩; dsimp only; have HS := Go.Lib.hid hs; have hown2 := own_at HO.out y2; clear hs)
        | (at_builtin; refine wpList_append_own _ rfl _ _ 73 rfl w.heap.size 9 i0 (.string ⟨#[]⟩) 1 16 Tryz.underlying73 hi hz0 hz1 hz2 rfl (by decide) _ _ _ rfl (hown2.alloc _) ⟨w2.heap.size, 0, none⟩ 1 1 [.string s] rfl rfl ?c1 ?c2 ?c3 ?c4 ?c5 ?_))
      case c1 =>
        intro j u hj
        match j, hj with
        | 0, hj => simp at hj; subst hj; simp [Addr.add]
      case c2 => intro u hu; simp at hu; subst hu; rfl
      case c3 => unfold maxLen; omega
      case c4 => omega
      case c5 => have := yo.size; have := y2.size; simp; omega
      intro v1 w1 hown1 hg1 _
      have hb2 : Below w.heap.size w w2 := yo.trans (y2.mono yo.size)
      have hbk := hb2.size
      obtain ⟨A1, c1, rfl⟩ : ∃ A1 c1, v1 = .slice A1 4 c1 := by
        rcases hown1.2 with ⟨hv, hz⟩ | ⟨g, cap, cur, hv, _⟩
        · exact absurd hz (by decide)
        · exact ⟨_, _, hv⟩
      go_wp2
      go_roundw
      case rel =>
        refine ⟨4, by omega, by go_num, ⟨A1, c1, xs ++ [s], rfl, by rw [List.map_append]; exact hown1, ?_⟩, (hb2.alloc hbk _).grown hg1 (by simp; omega) (fun q hq => (hown2.lt q hq).1)⟩
        rw [List.map_append, HX.out]
        show _ ++ [txB s] = _
        rw [HS.out, ← HY.out]
        rfl
      case measure => simp [intOf]
    · have e1 : (24 : Int) - 8 * ((4 : Nat) : Int) = -8 := rfl
      rw [e1]
      obtain ⟨g, rfl, hg, hl, hcp, hc⟩ := sts_own HO.out (by omega)
      have HC := Go.Lib.hid hc
      have HL := Go.Lib.hid (show Lib.join (xs.map txB) (txB { data := #[46] }) = addrT a by rw [HX.out]; exact join_addr a)
      clear hc
      go_wp2_with (go_at_call 32; refine (cjoin15 g c 4 xs { data := #[46] } hl _ HC.out hg (by omega) hcp (by rw [HL.out]; have := addrT_len ha; omega)).mono ?_; rintro e w2 ⟨⟨s, rfl, hs, hz⟩, y2⟩; dsimp only)
      go_ret
      refine ⟨⟨_, rfl, hs.trans HL.out, ?_⟩, yo.trans (y2.mono yo.size)⟩
      rw [← txB_len, hs, HL.out]
      exact addrT_len ha
end Go.Proofs.YtoghcefamoefpaaGreatDoor
