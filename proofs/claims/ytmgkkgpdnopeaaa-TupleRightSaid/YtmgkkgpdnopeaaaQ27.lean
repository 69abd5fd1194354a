/- Lemmas, several texts in one. -/
import Derived.Test.YtmgkkgpdnopeaaaQ01
import Derived.Test.YtmgkkgpdnopeaaaQ03
import Derived.Deep.RegionHeld3
import Derived.Test.YtmgkkgpdnopeaaaQ15
import Derived.Test.YtmgkkgpdnopeaaaRows
import Derived.Test.YtmgkkgpdnopeaaaQ19
import Derived.Test.YtmgkkgpdnopeaaaQ02
/- The contract of the document's own answer for package ip: Short. -/
namespace Go.Proofs.Ytmgkkgpdnopeaaa
open Go.ChangeShapes Go.WideShapes Go.ChangeAt Go.RowKit
set_option linter.unusedVariables false

set_option maxHeartbeats 400000 in
theorem rshort (p : Pk) (Ao : Option Addr) (co : Nat) (Ab : Option Addr) (cb : Nat) (w : World) :
    Calls Try.prog 8 #[pkV p Ao co Ab cb] w fun e w' => e = .returned (.bool (decide (p.opts.length ≤ 100) && decide (p.body.length ≤ 3000))) ∧ Below w.heap.size w w' := by
  by_cases h1 : p.opts.length ≤ 100
  · by_cases h2 : p.body.length ≤ 3000
    · go_enter Try.func8, Try.ntmps8
      go_wp2
      go_ret
      exact ⟨ret_bool (by first | (simp [*]; done) | (simp; omega) | (rw [Bool.eq_iff_iff]; simp [*]; done) | (rw [Bool.eq_iff_iff]; simp [*]; omega) | (rw [Bool.eq_iff_iff]; simp; omega)), (Below.refl _ _).alloc (Nat.le_refl _) _⟩
    · go_enter Try.func8, Try.ntmps8
      go_wp2
      go_ret
      exact ⟨ret_bool (by first | (simp [*]; done) | (simp; omega) | (rw [Bool.eq_iff_iff]; simp [*]; done) | (rw [Bool.eq_iff_iff]; simp [*]; omega) | (rw [Bool.eq_iff_iff]; simp; omega)), (Below.refl _ _).alloc (Nat.le_refl _) _⟩
  · go_enter Try.func8, Try.ntmps8
    go_wp2
    go_ret
    exact ⟨ret_bool (by first | (simp [*]; done) | (simp; omega) | (rw [Bool.eq_iff_iff]; simp [*]; done) | (rw [Bool.eq_iff_iff]; simp [*]; omega) | (rw [Bool.eq_iff_iff]; simp; omega)), (Below.refl _ _).alloc (Nat.le_refl _) _⟩

end Go.Proofs.Ytmgkkgpdnopeaaa

/- Statements of layer 9, walked: any packet has the document's tuple, or its error. -/
namespace Go.Proofs.Ytmgkkgpdnopeaaa
open Go.ChangeShapes Go.WideShapes Go.ChangeAt Go.RowKit
set_option linter.unusedVariables false
set_option linter.unusedSimpArgs false

theorem PkIn.at9 {w w' : World} {p : Pk} {Ao : Option Addr} {co : Nat} {Ab : Option Addr} {cb : Nat} (h : PkIn w p Ao co Ab cb) (y : Below w.heap.size w w') : PkIn w' p Ao co Ab cb :=
  ⟨h.rng, h.olen, h.ocap, h.onil, (h.obs.below y).more y.size, h.blen, h.bcap, h.bnil, (h.bbs.below y).more y.size⟩
set_option maxRecDepth 100000 in
set_option maxHeartbeats 16000000 in
theorem tupleRight (kA0 : AwakeC9) (kO0 : OfC9) (kT0 : TurnC9) (kR0 : RightC9) (kH0 : HashC9) (kL0 : LessC9) (p : Pk) (Ao : Option Addr) (co : Nat) (Ab : Option Addr) (cb : Nat) (a b : Tp) (seed : Int) (ra : RngTp a) (rb : RngTp b) (hs : 0 ≤ seed ∧ seed ≤ 4294967295) (w : World) (hp : PkIn w p Ao co Ab cb) :
    Calls Try.prog 3 #[pkV p Ao co Ab cb, tpV a, tpV b, .int .u32 seed] w fun e w' => e = .returned (.bool true) ∧ Below w.heap.size w w' := by
  have kA := Go.Lib.hid kA0
  obtain ⟨r, hr⟩ : ∃ x, rightT a = x := ⟨_, rfl⟩
  obtain ⟨h, hh⟩ : ∃ x, hashT a seed = x := ⟨_, rfl⟩
  obtain ⟨l, hl⟩ : ∃ x, lessT a b = x := ⟨_, rfl⟩
  obtain ⟨q, hq⟩ : ∃ x, ofP p = x := ⟨_, rfl⟩
  have HP := Go.Lib.hid hp
  have kT1 : Hid (∀ W, Calls Try.prog 11 #[tpV a] W fun e w' => e = .returned (tpV ⟨a.proto, a.dst, a.dport, a.src, a.sport⟩) ∧ Below W.heap.size W w') := Go.Lib.hid (fun W => kT0 a W ra)
  have rT1 : Hid (∀ W, Calls Try.prog 12 #[tpV a] W fun e w' => e = .returned (tpV ⟨a.proto, a.dst, a.dport, a.src, a.sport⟩) ∧ Below W.heap.size W w') := Go.Lib.hid (fun W => rturn a W)
  have kR1 : Hid (∀ W, Calls Try.prog 13 #[tpV a] W fun e w' => e = .returned (.bool r) ∧ Below W.heap.size W w') := Go.Lib.hid (fun W => kR0 a W r hr ra)
  have rR1 : Hid (∀ W, Calls Try.prog 14 #[tpV a] W fun e w' => e = .returned (.bool r) ∧ Below W.heap.size W w') := Go.Lib.hid (fun W => rright9 a W r hr)
  have kH1 : Hid (∀ W, Calls Try.prog 15 #[tpV a, .int .u32 seed] W fun e w' => e = .returned (.int .u32 h) ∧ Below W.heap.size W w') := Go.Lib.hid (fun W => kH0 a seed W h hh ra hs.1 hs.2)
  have rH1 : Hid (∀ W, Calls Try.prog 16 #[tpV a, .int .u32 seed] W fun e w' => e = .returned (.int .u32 h) ∧ Below W.heap.size W w') := Go.Lib.hid (fun W => rhash a ra seed W h hh)
  have kL1 : Hid (∀ W, Calls Try.prog 17 #[tpV a, tpV b] W fun e w' => e = .returned (.bool l) ∧ Below W.heap.size W w') := Go.Lib.hid (fun W => kL0 a b W l hl ra rb)
  have rL1 : Hid (∀ W, Calls Try.prog 18 #[tpV a, tpV b] W fun e w' => e = .returned (.bool l) ∧ Below W.heap.size W w') := Go.Lib.hid (fun W => rless a b ra rb W l hl)
  have kO : Hid (p.opts.length ≤ 100 → p.body.length ≤ 3000 → ∀ W, Below w.heap.size w W → Calls Try.prog 9 #[pkV p Ao co Ab cb] W fun e w' => e = .returned (.tuple #[tpV q.1, .int .i64 q.2]) ∧ Below W.heap.size W w') := Go.Lib.hid (fun h1 h2 W y => kO0 p Ao co Ab cb W q hq (HP.out.at9 y) (by omega) (by omega))
  have rO : Hid (p.body.length ≤ 3000 → ∀ W, Below w.heap.size w W → Calls Try.prog 10 #[pkV p Ao co Ab cb] W fun e w' => e = .returned (.tuple #[tpV q.1, .int .i64 q.2]) ∧ Below W.heap.size W w') := Go.Lib.hid (fun h2 W y => rof9 p Ao co Ab cb W q hq (HP.out.at9 y) (by omega))
  have x0 : Below w.heap.size w (((w.alloc (oPk p Ao co Ab cb)).alloc (oTp a)).alloc (oTp b)) := below_alloc (below_alloc (below_alloc (Below.refl _ _) (Nat.le_refl _) _) (by simp) _) (by simp; omega) _
  have h1 := ((Bxo.made w 25 (pkL p Ao co Ab cb)).alloc (oTp a)).alloc (oTp b)
  have h2 : Bxo (((w.alloc (oPk p Ao co Ab cb)).alloc (oTp a)).alloc (oTp b)) (w.heap.size + 1) 27 (tpL a) := by
    have := (Bxo.made (w.alloc (oPk p Ao co Ab cb)) 27 (tpL a)).alloc (oTp b)
    simpa using this
  have h3 : Bxo (((w.alloc (oPk p Ao co Ab cb)).alloc (oTp a)).alloc (oTp b)) (w.heap.size + 2) 27 (tpL b) := by
    have := Bxo.made ((w.alloc (oPk p Ao co Ab cb)).alloc (oTp a)) 27 (tpL b)
    simpa using this
  have e1 : ∀ W, (binOp .eql 27 (tpV q.1) (tpV q.1)).run Try.prog W = .ok (.bool true) W := fun W => (eqTp _ _ W).trans (by rw [(sameTp_iff _ _).2 rfl])
  have e2 : ∀ W, (binOp .eql 27 (tpV ⟨a.proto, a.dst, a.dport, a.src, a.sport⟩) (tpV ⟨a.proto, a.dst, a.dport, a.src, a.sport⟩)).run Try.prog W = .ok (.bool true) W := fun W => (eqTp _ _ W).trans (by rw [(sameTp_iff _ _).2 rfl])
  clear kA0 kO0 kT0 kR0 kH0 kL0 hr hh hl hq ra rb hp
  go_enter Try.func3, Try.ntmps3
  go_upto_region 1 with fail
  generalize ((w.alloc (oPk p Ao co Ab cb)).alloc (oTp a)).alloc (oTp b) = W at *
  have HP1 := Go.Lib.hid h1
  have HA := Go.Lib.hid h2
  have HB := Go.Lib.hid h3
  clear h1 h2 h3
  cases hsh : (decide (p.opts.length ≤ 100) && decide (p.body.length ≤ 3000))
  · have HS := Go.Lib.hid hsh
    clear hsh
    go_wp2_with (first
      | (refine wpList_load_box rfl 25 _ rfl w.heap.size rfl (pkL p Ao co Ab cb) _ HP1.out Try.underlying25 rfl info_pk ?_)
      | (go_at_call 7; refine (kA.out _).mono ?_; rintro e w1 ⟨rfl, y1⟩; have HP1 := Go.Lib.hid (HP1.out.keep y1 HP1.out.lt); have HA := Go.Lib.hid (HA.out.keep y1 HA.out.lt); have HB := Go.Lib.hid (HB.out.keep y1 HB.out.lt); have x1 := x0.trans (y1.mono x0.size); dsimp only)
      | (go_at_call 8; refine (rshort p Ao co Ab cb w1).mono ?_; rw [HS.out]; rintro e w2 ⟨rfl, y2⟩; have HP1 := Go.Lib.hid (HP1.out.keep y2 HP1.out.lt); have HA := Go.Lib.hid (HA.out.keep y2 HA.out.lt); have HB := Go.Lib.hid (HB.out.keep y2 HB.out.lt); have xs := x1.trans (y2.mono x1.size); dsimp only))
    go_ret
    exact ⟨rfl, xs⟩
  · have HS := Go.Lib.hid hsh
    rw [Bool.and_eq_true, decide_eq_true_eq, decide_eq_true_eq] at hsh
    have kO := Go.Lib.hid (kO.out hsh.1 hsh.2)
    have rO := Go.Lib.hid (rO.out hsh.2)
    clear hsh
    go_upto_region 7 with (first
      | (refine wpList_load_box rfl 25 _ rfl w.heap.size rfl (pkL p Ao co Ab cb) _ HP1.out Try.underlying25 rfl info_pk ?_)
      | (go_at_call 7; refine (kA.out _).mono ?_; rintro e w1 ⟨rfl, y1⟩; have HP1 := Go.Lib.hid (HP1.out.keep y1 HP1.out.lt); have HA := Go.Lib.hid (HA.out.keep y1 HA.out.lt); have HB := Go.Lib.hid (HB.out.keep y1 HB.out.lt); have x1 := x0.trans (y1.mono x0.size); dsimp only)
      | (go_at_call 8; refine (rshort p Ao co Ab cb w1).mono ?_; rw [HS.out]; rintro e w2 ⟨rfl, y2⟩; have HP1 := Go.Lib.hid (HP1.out.keep y2 HP1.out.lt); have HA := Go.Lib.hid (HA.out.keep y2 HA.out.lt); have HB := Go.Lib.hid (HB.out.keep y2 HB.out.lt); have xs := x1.trans (y2.mono x1.size); dsimp only)
      | (go_at_call 9; refine (kO.out w2 xs).mono ?_; rintro e wo ⟨rfl, yo⟩; have HP1 := Go.Lib.hid (HP1.out.keep yo HP1.out.lt); have HA := Go.Lib.hid (HA.out.keep yo HA.out.lt); have HB := Go.Lib.hid (HB.out.keep yo HB.out.lt); have xo := xs.trans (yo.mono xs.size); have HP1 := Go.Lib.hid (HP1.out.alloc (oTp q.1)); have HA := Go.Lib.hid (HA.out.alloc (oTp q.1)); have HB := Go.Lib.hid (HB.out.alloc (oTp q.1)); dsimp only)
      | (go_at_call 10; refine (rO.out _ (below_alloc xo xo.size (oTp q.1))).mono ?_; rintro e wr ⟨rfl, yr⟩; have HP1 := Go.Lib.hid (HP1.out.keep yr HP1.out.lt); have HA := Go.Lib.hid (HA.out.keep yr HA.out.lt); have HB := Go.Lib.hid (HB.out.keep yr HB.out.lt); dsimp only))
    have x9 : Below w.heap.size w (wr.alloc (oTp q.1)) := below_alloc ((below_alloc xo xo.size (oTp q.1)).trans (yr.mono (by simp; have := xo.size; omega))) (by have := xo.size; have := yr.size; simp at this; omega) _
    have HX := Go.Lib.hid (((Bxo.made wo 27 (tpL q.1)).keep yr (by simp)).alloc (oTp q.1))
    have HY := Go.Lib.hid (Bxo.made wr 27 (tpL q.1))
    have HA := Go.Lib.hid (HA.out.alloc (oTp q.1))
    have HB := Go.Lib.hid (HB.out.alloc (oTp q.1))
    clear HP1 HP kO rO kA HS yo yr
    generalize wr.alloc (.cells (tpL q.1).toArray 27) = W9 at *
    generalize wr.heap.size = g11 at *
    generalize wo.heap.size = g9 at *
    have HX0 := HX
    have HY0 := HY
    have HA0 := HA
    have HB0 := HB
    try simp only [Act.put, List.setIfInBounds_toArray, List.set_cons_zero, List.set_cons_succ]
    refine wp_region_held_drew (S := fun Y => Below W9.heap.size W9 Y) (by kernel_rfl) ?_ (fun hHeld => ?_)
    · exact below_drew (Below.refl _ _)
    have zd : W9.drew.heap.size ≤ W9.heap.size := Nat.le_refl _; have zd2 : W9.heap.size ≤ W9.drew.heap.size := Nat.le_refl _
    refine wpAnyH_take (i := 0) (oi := ⟨some 28, _, _, _, _, _⟩) (v := (tpV q.1)) rfl (by kernel_rfl) (by kernel_rfl) (by kernel_rfl) (fun _ _ _ h => h) (yieldsIf_load_at (by rfl) 27 _ rfl ⟨g9, 0, none⟩ rfl (tpL q.1) _ (fun Y h => (HX0.out.keep h HX0.out.lt).at) Try.underlying27 rfl info_tp) (by assumption) ?_
    try simp only [Act.put, List.setIfInBounds_toArray, List.set_cons_zero, List.set_cons_succ]
    refine wpAnyH_take (i := 1) (oi := ⟨some 29, _, _, _, _, _⟩) (v := (tpV q.1)) rfl (by kernel_rfl) (by kernel_rfl) (by kernel_rfl) (fun _ _ _ h => h) (yieldsIf_load_at (by rfl) 27 _ rfl ⟨g11, 0, none⟩ rfl (tpL q.1) _ (fun Y h => (HY0.out.keep h HY0.out.lt).at) Try.underlying27 rfl info_tp) (by assumption) ?_
    try simp only [Act.put, List.setIfInBounds_toArray, List.set_cons_zero, List.set_cons_succ]
    refine wpAnyH_take (i := 2) (oi := ⟨some 30, _, _, _, _, _⟩) (v := ?_) rfl (by kernel_rfl) (by kernel_rfl) (by kernel_rfl) (fun _ _ _ h => h) (Or.inl ⟨by rfl, ?_⟩) (by assumption) ?_
    rotate_left
    · intro w hSw; (try dsimp only at hSw); go_simp; (try with_reducible rfl)
    try simp only [Act.put, List.setIfInBounds_toArray, List.set_cons_zero, List.set_cons_succ]
    refine wpAnyH_take (i := 3) (oi := ⟨some 31, _, _, _, _, _⟩) (v := ?_) rfl (by kernel_rfl) (by kernel_rfl) (by kernel_rfl) (fun _ _ _ h => h) (Or.inl ⟨by rfl, ?_⟩) (by assumption) ?_
    rotate_left
    · intro w hSw; (try dsimp only at hSw); go_simp; (try with_reducible rfl)
    try simp only [Act.put, List.setIfInBounds_toArray, List.set_cons_zero, List.set_cons_succ]
    refine wpAnyH_take (i := 4) (oi := ⟨some 32, _, _, _, _, _⟩) (v := ?_) rfl (by kernel_rfl) (by kernel_rfl) (by kernel_rfl) (fun _ _ _ h => h) (Or.inl ⟨by rfl, ?_⟩) (by assumption) ?_
    rotate_left
    · intro w hSw; (try dsimp only at hSw); go_simp; (try with_reducible rfl)
    try simp only [Act.put, List.setIfInBounds_toArray, List.set_cons_zero, List.set_cons_succ]
    refine wpAnyH_take (i := 5) (oi := ⟨some 33, _, _, _, _, _⟩) (v := ?_) rfl (by kernel_rfl) (by kernel_rfl) (by kernel_rfl) (fun _ _ _ h => h) (Or.inl ⟨by rfl, ?_⟩) (by assumption) ?_
    rotate_left
    · intro w hSw; (try dsimp only at hSw); go_simp; (try with_reducible rfl)
    try simp only [Act.put, List.setIfInBounds_toArray, List.set_cons_zero, List.set_cons_succ]
    refine wpAnyH_take (i := 6) (oi := ⟨some 34, _, _, _, _, _⟩) (v := ?_) rfl (by kernel_rfl) (by kernel_rfl) (by kernel_rfl) (fun _ _ _ h => h) (Or.inl ⟨by rfl, ?_⟩) (by assumption) ?_
    rotate_left
    · intro w hSw; (try dsimp only at hSw); go_simp; (try with_reducible rfl)
    try simp only [Act.put, List.setIfInBounds_toArray, List.set_cons_zero, List.set_cons_succ]
    refine wpAnyH_take (i := 7) (oi := ⟨some 35, _, _, _, _, _⟩) (v := ?_) rfl (by kernel_rfl) (by kernel_rfl) (by kernel_rfl) (fun _ _ _ h => h) (Or.inl ⟨by rfl, ?_⟩) (by assumption) ?_
    rotate_left
    · intro w hSw; (try dsimp only at hSw); go_simp; (try with_reducible rfl)
    try simp only [Act.put, List.setIfInBounds_toArray, List.set_cons_zero, List.set_cons_succ]
    refine wpAnyH_take (i := 8) (oi := ⟨some 36, _, _, _, _, _⟩) (v := ?_) rfl (by kernel_rfl) (by kernel_rfl) (by kernel_rfl) (fun _ _ _ h => h) (Or.inl ⟨by rfl, ?_⟩) (by assumption) ?_
    rotate_left
    · intro w hSw; (try dsimp only at hSw); go_simp; (try with_reducible rfl)
    try simp only [Act.put, List.setIfInBounds_toArray, List.set_cons_zero, List.set_cons_succ]
    refine wpAnyH_take (i := 9) (oi := ⟨some 37, _, _, _, _, _⟩) (v := (tpV a)) rfl (by kernel_rfl) (by kernel_rfl) (by kernel_rfl) (fun _ _ _ h => h) (yieldsIf_load_at (by rfl) 27 _ rfl ⟨w.heap.size + 1, 0, none⟩ rfl (tpL a) _ (fun Y h => (HA0.out.keep h HA0.out.lt).at) Try.underlying27 rfl info_tp) (by assumption) ?_
    try simp only [Act.put, List.setIfInBounds_toArray, List.set_cons_zero, List.set_cons_succ]
    refine wpAnyH_take (i := 11) (oi := ⟨some 39, _, _, _, _, _⟩) (v := (tpV a)) rfl (by kernel_rfl) (by kernel_rfl) (by kernel_rfl) (fun _ _ _ h => h) (yieldsIf_load_at (by rfl) 27 _ rfl ⟨w.heap.size + 1, 0, none⟩ rfl (tpL a) _ (fun Y h => (HA0.out.keep h HA0.out.lt).at) Try.underlying27 rfl info_tp) (by assumption) ?_
    try simp only [Act.put, List.setIfInBounds_toArray, List.set_cons_zero, List.set_cons_succ]
    refine wpAnyH_ready (rs := [10]) (by kernel_rfl) (by simp) (AllReadyH.cons (o := ⟨some 38, _, _, _, _, _⟩) rfl (fun Kc hKc => ?_) AllReadyH.nil)
    have zhq1 := hHeld.size
    go_simp
    go_at_call 11; refine (kT1.out W9.drew).mono ?_; rintro e wq1 ⟨rfl, yq1⟩; dsimp only
    have zq1 := yq1.size
    refine hKc.out _ _ (hHeld.trans (yq1.mono hHeld.size)) (fun hHeld => ?_)
    clear hKc Kc
    try simp only [Act.put, List.setIfInBounds_toArray, List.set_cons_zero, List.set_cons_succ]
    refine wpAnyH_ready (rs := [12]) (by kernel_rfl) (by simp) (AllReadyH.cons (o := ⟨some 40, _, _, _, _, _⟩) rfl (fun Kc hKc => ?_) AllReadyH.nil)
    have zhq2 := hHeld.size
    go_simp
    go_at_call 12; refine (rT1.out wq1).mono ?_; rintro e wq2 ⟨rfl, yq2⟩; dsimp only
    have zq2 := yq2.size
    refine hKc.out _ _ (hHeld.trans (yq2.mono hHeld.size)) (fun hHeld => ?_)
    clear hKc Kc
    try simp only [Act.put, List.setIfInBounds_toArray, List.set_cons_zero, List.set_cons_succ]
    refine wpAnyH_take (i := 13) (oi := ⟨some 41, _, _, _, _, _⟩) (v := ?_) rfl (by kernel_rfl) (by kernel_rfl) (by kernel_rfl) (fun _ _ _ h => h) (Or.inl ⟨by rfl, ?_⟩) (by assumption) ?_
    rotate_left
    · intro w hSw; (try dsimp only at hSw); go_simp; (try with_reducible rfl)
    try simp only [Act.put, List.setIfInBounds_toArray, List.set_cons_zero, List.set_cons_succ]
    refine wpAnyH_take (i := 14) (oi := ⟨some 42, _, _, _, _, _⟩) (v := ?_) rfl (by kernel_rfl) (by kernel_rfl) (by kernel_rfl) (fun _ _ _ h => h) (Or.inl ⟨by rfl, ?_⟩) (by assumption) ?_
    rotate_left
    · intro w hSw; (try dsimp only at hSw); go_simp; (try with_reducible rfl)
    try simp only [Act.put, List.setIfInBounds_toArray, List.set_cons_zero, List.set_cons_succ]
    refine wpAnyH_take (i := 15) (oi := ⟨some 43, _, _, _, _, _⟩) (v := ?_) rfl (by kernel_rfl) (by kernel_rfl) (by kernel_rfl) (fun _ _ _ h => h) (Or.inl ⟨by rfl, ?_⟩) (by assumption) ?_
    rotate_left
    · intro w hSw; (try dsimp only at hSw); go_simp; (try with_reducible rfl)
    try simp only [Act.put, List.setIfInBounds_toArray, List.set_cons_zero, List.set_cons_succ]
    refine wpAnyH_take (i := 16) (oi := ⟨some 44, _, _, _, _, _⟩) (v := (tpV a)) rfl (by kernel_rfl) (by kernel_rfl) (by kernel_rfl) (fun _ _ _ h => h) (yieldsIf_load_at (by rfl) 27 _ rfl ⟨w.heap.size + 1, 0, none⟩ rfl (tpL a) _ (fun Y h => (HA0.out.keep h HA0.out.lt).at) Try.underlying27 rfl info_tp) (by assumption) ?_
    try simp only [Act.put, List.setIfInBounds_toArray, List.set_cons_zero, List.set_cons_succ]
    refine wpAnyH_take (i := 18) (oi := ⟨some 46, _, _, _, _, _⟩) (v := (tpV a)) rfl (by kernel_rfl) (by kernel_rfl) (by kernel_rfl) (fun _ _ _ h => h) (yieldsIf_load_at (by rfl) 27 _ rfl ⟨w.heap.size + 1, 0, none⟩ rfl (tpL a) _ (fun Y h => (HA0.out.keep h HA0.out.lt).at) Try.underlying27 rfl info_tp) (by assumption) ?_
    try simp only [Act.put, List.setIfInBounds_toArray, List.set_cons_zero, List.set_cons_succ]
    refine wpAnyH_ready (rs := [17]) (by kernel_rfl) (by simp) (AllReadyH.cons (o := ⟨some 45, _, _, _, _, _⟩) rfl (fun Kc hKc => ?_) AllReadyH.nil)
    have zhq3 := hHeld.size
    go_simp
    go_at_call 13; refine (kR1.out wq2).mono ?_; rintro e wq3 ⟨rfl, yq3⟩; dsimp only
    have zq3 := yq3.size
    refine hKc.out _ _ (hHeld.trans (yq3.mono hHeld.size)) (fun hHeld => ?_)
    clear hKc Kc
    try simp only [Act.put, List.setIfInBounds_toArray, List.set_cons_zero, List.set_cons_succ]
    refine wpAnyH_ready (rs := [19]) (by kernel_rfl) (by simp) (AllReadyH.cons (o := ⟨some 47, _, _, _, _, _⟩) rfl (fun Kc hKc => ?_) AllReadyH.nil)
    have zhq4 := hHeld.size
    go_simp
    go_at_call 14; refine (rR1.out wq3).mono ?_; rintro e wq4 ⟨rfl, yq4⟩; dsimp only
    have zq4 := yq4.size
    refine hKc.out _ _ (hHeld.trans (yq4.mono hHeld.size)) (fun hHeld => ?_)
    clear hKc Kc
    try simp only [Act.put, List.setIfInBounds_toArray, List.set_cons_zero, List.set_cons_succ]
    refine wpAnyH_take (i := 20) (oi := ⟨some 48, _, _, _, _, _⟩) (v := ?_) rfl (by kernel_rfl) (by kernel_rfl) (by kernel_rfl) (fun _ _ _ h => h) (Or.inl ⟨by rfl, ?_⟩) (by assumption) ?_
    rotate_left
    · intro w hSw; (try dsimp only at hSw); go_simp; (try with_reducible rfl)
    try simp only [Act.put, List.setIfInBounds_toArray, List.set_cons_zero, List.set_cons_succ]
    refine wpAnyH_take (i := 21) (oi := ⟨some 49, _, _, _, _, _⟩) (v := ?_) rfl (by kernel_rfl) (by kernel_rfl) (by kernel_rfl) (fun _ _ _ h => h) (Or.inl ⟨by rfl, ?_⟩) (by assumption) ?_
    rotate_left
    · intro w hSw; (try dsimp only at hSw); go_simp; (try with_reducible rfl)
    try simp only [Act.put, List.setIfInBounds_toArray, List.set_cons_zero, List.set_cons_succ]
    refine wpAnyH_take (i := 22) (oi := ⟨some 50, _, _, _, _, _⟩) (v := ?_) rfl (by kernel_rfl) (by kernel_rfl) (by kernel_rfl) (fun _ _ _ h => h) (Or.inl ⟨by rfl, ?_⟩) (by assumption) ?_
    rotate_left
    · intro w hSw; (try dsimp only at hSw); go_simp; (try with_reducible rfl)
    try simp only [Act.put, List.setIfInBounds_toArray, List.set_cons_zero, List.set_cons_succ]
    refine wpAnyH_take (i := 23) (oi := ⟨some 51, _, _, _, _, _⟩) (v := (tpV a)) rfl (by kernel_rfl) (by kernel_rfl) (by kernel_rfl) (fun _ _ _ h => h) (yieldsIf_load_at (by rfl) 27 _ rfl ⟨w.heap.size + 1, 0, none⟩ rfl (tpL a) _ (fun Y h => (HA0.out.keep h HA0.out.lt).at) Try.underlying27 rfl info_tp) (by assumption) ?_
    try simp only [Act.put, List.setIfInBounds_toArray, List.set_cons_zero, List.set_cons_succ]
    refine wpAnyH_take (i := 24) (oi := ⟨some 52, _, _, _, _, _⟩) (v := ?_) rfl (by kernel_rfl) (by kernel_rfl) (by kernel_rfl) (fun _ _ _ h => h) (Or.inl ⟨by rfl, ?_⟩) (by assumption) ?_
    rotate_left
    · intro w hSw; (try dsimp only at hSw); go_simp; (try with_reducible rfl)
    try simp only [Act.put, List.setIfInBounds_toArray, List.set_cons_zero, List.set_cons_succ]
    refine wpAnyH_take (i := 26) (oi := ⟨some 54, _, _, _, _, _⟩) (v := (tpV a)) rfl (by kernel_rfl) (by kernel_rfl) (by kernel_rfl) (fun _ _ _ h => h) (yieldsIf_load_at (by rfl) 27 _ rfl ⟨w.heap.size + 1, 0, none⟩ rfl (tpL a) _ (fun Y h => (HA0.out.keep h HA0.out.lt).at) Try.underlying27 rfl info_tp) (by assumption) ?_
    try simp only [Act.put, List.setIfInBounds_toArray, List.set_cons_zero, List.set_cons_succ]
    refine wpAnyH_take (i := 27) (oi := ⟨some 55, _, _, _, _, _⟩) (v := ?_) rfl (by kernel_rfl) (by kernel_rfl) (by kernel_rfl) (fun _ _ _ h => h) (Or.inl ⟨by rfl, ?_⟩) (by assumption) ?_
    rotate_left
    · intro w hSw; (try dsimp only at hSw); go_simp; (try with_reducible rfl)
    try simp only [Act.put, List.setIfInBounds_toArray, List.set_cons_zero, List.set_cons_succ]
    refine wpAnyH_ready (rs := [25]) (by kernel_rfl) (by simp) (AllReadyH.cons (o := ⟨some 53, _, _, _, _, _⟩) rfl (fun Kc hKc => ?_) AllReadyH.nil)
    have zhq5 := hHeld.size
    go_simp
    go_at_call 15; refine (kH1.out wq4).mono ?_; rintro e wq5 ⟨rfl, yq5⟩; dsimp only
    have zq5 := yq5.size
    refine hKc.out _ _ (hHeld.trans (yq5.mono hHeld.size)) (fun hHeld => ?_)
    clear hKc Kc
    try simp only [Act.put, List.setIfInBounds_toArray, List.set_cons_zero, List.set_cons_succ]
    refine wpAnyH_ready (rs := [28]) (by kernel_rfl) (by simp) (AllReadyH.cons (o := ⟨some 56, _, _, _, _, _⟩) rfl (fun Kc hKc => ?_) AllReadyH.nil)
    have zhq6 := hHeld.size
    go_simp
    go_at_call 16; refine (rH1.out wq5).mono ?_; rintro e wq6 ⟨rfl, yq6⟩; dsimp only
    have zq6 := yq6.size
    refine hKc.out _ _ (hHeld.trans (yq6.mono hHeld.size)) (fun hHeld => ?_)
    clear hKc Kc
    try simp only [Act.put, List.setIfInBounds_toArray, List.set_cons_zero, List.set_cons_succ]
    refine wpAnyH_take (i := 29) (oi := ⟨some 57, _, _, _, _, _⟩) (v := ?_) rfl (by kernel_rfl) (by kernel_rfl) (by kernel_rfl) (fun _ _ _ h => h) (Or.inl ⟨by rfl, ?_⟩) (by assumption) ?_
    rotate_left
    · intro w hSw; (try dsimp only at hSw); go_simp; (try with_reducible rfl)
    try simp only [Act.put, List.setIfInBounds_toArray, List.set_cons_zero, List.set_cons_succ]
    refine wpAnyH_take (i := 30) (oi := ⟨some 58, _, _, _, _, _⟩) (v := ?_) rfl (by kernel_rfl) (by kernel_rfl) (by kernel_rfl) (fun _ _ _ h => h) (Or.inl ⟨by rfl, ?_⟩) (by assumption) ?_
    rotate_left
    · intro w hSw; (try dsimp only at hSw); go_simp; (try with_reducible rfl)
    try simp only [Act.put, List.setIfInBounds_toArray, List.set_cons_zero, List.set_cons_succ]
    refine wpAnyH_take (i := 31) (oi := ⟨some 59, _, _, _, _, _⟩) (v := ?_) rfl (by kernel_rfl) (by kernel_rfl) (by kernel_rfl) (fun _ _ _ h => h) (Or.inl ⟨by rfl, ?_⟩) (by assumption) ?_
    rotate_left
    · intro w hSw; (try dsimp only at hSw); go_simp; (try with_reducible rfl)
    try simp only [Act.put, List.setIfInBounds_toArray, List.set_cons_zero, List.set_cons_succ]
    refine wpAnyH_take (i := 32) (oi := ⟨some 60, _, _, _, _, _⟩) (v := (tpV a)) rfl (by kernel_rfl) (by kernel_rfl) (by kernel_rfl) (fun _ _ _ h => h) (yieldsIf_load_at (by rfl) 27 _ rfl ⟨w.heap.size + 1, 0, none⟩ rfl (tpL a) _ (fun Y h => (HA0.out.keep h HA0.out.lt).at) Try.underlying27 rfl info_tp) (by assumption) ?_
    try simp only [Act.put, List.setIfInBounds_toArray, List.set_cons_zero, List.set_cons_succ]
    refine wpAnyH_take (i := 33) (oi := ⟨some 61, _, _, _, _, _⟩) (v := (tpV b)) rfl (by kernel_rfl) (by kernel_rfl) (by kernel_rfl) (fun _ _ _ h => h) (yieldsIf_load_at (by rfl) 27 _ rfl ⟨w.heap.size + 2, 0, none⟩ rfl (tpL b) _ (fun Y h => (HB0.out.keep h HB0.out.lt).at) Try.underlying27 rfl info_tp) (by assumption) ?_
    try simp only [Act.put, List.setIfInBounds_toArray, List.set_cons_zero, List.set_cons_succ]
    refine wpAnyH_take (i := 35) (oi := ⟨some 63, _, _, _, _, _⟩) (v := (tpV a)) rfl (by kernel_rfl) (by kernel_rfl) (by kernel_rfl) (fun _ _ _ h => h) (yieldsIf_load_at (by rfl) 27 _ rfl ⟨w.heap.size + 1, 0, none⟩ rfl (tpL a) _ (fun Y h => (HA0.out.keep h HA0.out.lt).at) Try.underlying27 rfl info_tp) (by assumption) ?_
    try simp only [Act.put, List.setIfInBounds_toArray, List.set_cons_zero, List.set_cons_succ]
    refine wpAnyH_take (i := 36) (oi := ⟨some 64, _, _, _, _, _⟩) (v := (tpV b)) rfl (by kernel_rfl) (by kernel_rfl) (by kernel_rfl) (fun _ _ _ h => h) (yieldsIf_load_at (by rfl) 27 _ rfl ⟨w.heap.size + 2, 0, none⟩ rfl (tpL b) _ (fun Y h => (HB0.out.keep h HB0.out.lt).at) Try.underlying27 rfl info_tp) (by assumption) ?_
    try simp only [Act.put, List.setIfInBounds_toArray, List.set_cons_zero, List.set_cons_succ]
    refine wpAnyH_ready (rs := [34]) (by kernel_rfl) (by simp) (AllReadyH.cons (o := ⟨some 62, _, _, _, _, _⟩) rfl (fun Kc hKc => ?_) AllReadyH.nil)
    have zhq7 := hHeld.size
    go_simp
    go_at_call 17; refine (kL1.out wq6).mono ?_; rintro e wq7 ⟨rfl, yq7⟩; dsimp only
    have zq7 := yq7.size
    refine hKc.out _ _ (hHeld.trans (yq7.mono hHeld.size)) (fun hHeld => ?_)
    clear hKc Kc
    try simp only [Act.put, List.setIfInBounds_toArray, List.set_cons_zero, List.set_cons_succ]
    refine wpAnyH_ready (rs := [37]) (by kernel_rfl) (by simp) (AllReadyH.cons (o := ⟨some 65, _, _, _, _, _⟩) rfl (fun Kc hKc => ?_) AllReadyH.nil)
    have zhq8 := hHeld.size
    go_simp
    go_at_call 18; refine (rL1.out wq7).mono ?_; rintro e wq8 ⟨rfl, yq8⟩; dsimp only
    have zq8 := yq8.size
    refine hKc.out _ _ (hHeld.trans (yq8.mono hHeld.size)) (fun hHeld => ?_)
    clear hKc Kc
    try simp only [Act.put, List.setIfInBounds_toArray, List.set_cons_zero, List.set_cons_succ]
    refine wpAnyH_take (i := 38) (oi := ⟨some 66, _, _, _, _, _⟩) (v := ?_) rfl (by kernel_rfl) (by kernel_rfl) (by kernel_rfl) (fun _ _ _ h => h) (Or.inl ⟨by rfl, ?_⟩) (by assumption) ?_
    rotate_left
    · intro w hSw; (try dsimp only at hSw); go_simp; (try with_reducible rfl)
    try simp only [Act.put, List.setIfInBounds_toArray, List.set_cons_zero, List.set_cons_succ]
    refine wpAnyH_take (i := 39) (oi := ⟨some 67, _, _, _, _, _⟩) (v := ?_) rfl (by kernel_rfl) (by kernel_rfl) (by kernel_rfl) (fun _ _ _ h => h) (Or.inl ⟨by rfl, ?_⟩) (by assumption) ?_
    rotate_left
    · intro w hSw; (try dsimp only at hSw); go_simp; (try with_reducible rfl)
    try simp only [Act.put, List.setIfInBounds_toArray, List.set_cons_zero, List.set_cons_succ]
    refine wpAnyH_take (i := 40) (oi := ⟨some 8, _, _, _, _, _⟩) (v := ?_) rfl (by kernel_rfl) (by kernel_rfl) (by kernel_rfl) (fun _ _ _ h => h) (Or.inl ⟨by rfl, ?_⟩) (by assumption) ?_
    rotate_left
    · intro w hSw; (try dsimp only at hSw); go_simp; (try with_reducible rfl)
    try simp only [Act.put, List.setIfInBounds_toArray, List.set_cons_zero, List.set_cons_succ]
    refine wpAnyH_done (by kernel_rfl) ?_ _
    have xF := x9.trans (hHeld.mono x9.size)
    clear hHeld
    go_wp2
    go_ret
    exact ⟨rfl, xF⟩
end Go.Proofs.Ytmgkkgpdnopeaaa

/- A packet among a law's arguments, opened. No condition. -/
namespace Go.Proofs.Ytmgkkgpdnopeaaa
open Go.ChangeShapes Go.WideShapes Go.ChangeAt Go.RowKit
set_option linter.unusedVariables false

theorem Try.cellsU8 : Try.prog.cellsOf 5 = 1 := by kernel_rfl
theorem pk_fields : ∃ fs : Array Field, Try.prog.underlying 25 = some (.struct fs) ∧ Go.Deep.oneCellFields Try.prog fs = true ∧ Try.prog.cellsOf 25 = fs.size ∧ fs.size = 11 ∧
    (fs[0]?.map (·.type)) = some 3 ∧ (fs[1]?.map (·.type)) = some 3 ∧ (fs[2]?.map (·.type)) = some 4 ∧ (fs[3]?.map (·.type)) = some 4 ∧ (fs[4]?.map (·.type)) = some 3 ∧ (fs[5]?.map (·.type)) = some 3 ∧ (fs[6]?.map (·.type)) = some 3 ∧ (fs[7]?.map (·.type)) = some 22 ∧ (fs[8]?.map (·.type)) = some 22 ∧ (fs[9]?.map (·.type)) = some 23 ∧ (fs[10]?.map (·.type)) = some 23 :=
  ⟨_, Try.underlying25, by kernel_rfl, by kernel_rfl, rfl, rfl, rfl, rfl, rfl, rfl, rfl, rfl, rfl, rfl, rfl, rfl⟩
theorem field_of {fs : Array Field} {j : Nat} {t : TypeId} (h : (fs[j]?.map (·.type)) = some t) : ∃ f, fs[j]? = some f ∧ f.type = t := by
  rw [Option.map_eq_some_iff] at h
  exact h
set_option maxRecDepth 100000 in
/-- a packet that came in. -/
theorem open_pk {H : Type} {enc : TypeId × Value → H} {w : World} {base : Nat} {spare : Nat → Bool} {held : Bool} {r : Reach} {b0 : Nat} {v : Value} {d : DataW H} {ps : List MemPlace}
    (hv : Value.okWide Try.prog w r b0 25 v) (h : DataW.Trod enc Try.prog w base spare held 25 v d ps) :
    ∃ (p : Pk) (Ao : Option Addr) (co : Nat) (Ab : Option Addr) (cb : Nat), v = pkV p Ao co Ab cb ∧ PkIn w p Ao co Ab cb := by
  obtain ⟨fs, hs, hone, hC, h11, t0, t1, t2, t3, t4, t5, t6, t7, t8, t9, t10⟩ := pk_fields
  obtain ⟨cs, rfl, hl, hf⟩ := open_struct hs hone hC hv h
  rw [h11] at hl
  match cs, hl with
  | [c0, c1, c2, c3, c4, c5, c6, c7, c8, c9, c10], _ =>
    obtain ⟨f0, e0, y0⟩ := field_of t0
    obtain ⟨f1, e1, y1⟩ := field_of t1
    obtain ⟨f2, e2, y2⟩ := field_of t2
    obtain ⟨f3, e3, y3⟩ := field_of t3
    obtain ⟨f4, e4, y4⟩ := field_of t4
    obtain ⟨f5, e5, y5⟩ := field_of t5
    obtain ⟨f6, e6, y6⟩ := field_of t6
    obtain ⟨f7, e7, y7⟩ := field_of t7
    obtain ⟨f8, e8, y8⟩ := field_of t8
    obtain ⟨f9, e9, y9⟩ := field_of t9
    obtain ⟨f10, e10, y10⟩ := field_of t10
    obtain ⟨_, _, g0⟩ := hf 0 f0 c0 e0 rfl
    obtain ⟨_, _, g1⟩ := hf 1 f1 c1 e1 rfl
    obtain ⟨_, _, g2⟩ := hf 2 f2 c2 e2 rfl
    obtain ⟨_, _, g3⟩ := hf 3 f3 c3 e3 rfl
    obtain ⟨_, _, g4⟩ := hf 4 f4 c4 e4 rfl
    obtain ⟨_, _, g5⟩ := hf 5 f5 c5 e5 rfl
    obtain ⟨_, _, g6⟩ := hf 6 f6 c6 e6 rfl
    obtain ⟨_, _, g7⟩ := hf 7 f7 c7 e7 rfl
    obtain ⟨_, _, g8⟩ := hf 8 f8 c8 e8 rfl
    obtain ⟨_, _, g9⟩ := hf 9 f9 c9 e9 rfl
    obtain ⟨_, _, g10⟩ := hf 10 f10 c10 e10 rfl
    rw [y0] at g0
    rw [y1] at g1
    rw [y2] at g2
    rw [y3] at g3
    rw [y4] at g4
    rw [y5] at g5
    rw [y6] at g6
    rw [y7] at g7
    rw [y8] at g8
    rw [y9] at g9
    rw [y10] at g10
    obtain ⟨tos, rfl, _⟩ := int_field Try.underlying3 g0
    obtain ⟨id, rfl, _⟩ := int_field Try.underlying3 g1
    obtain ⟨df, rfl⟩ := bool_field Try.underlying4 g2
    obtain ⟨mf, rfl⟩ := bool_field Try.underlying4 g3
    obtain ⟨off, rfl, _⟩ := int_field Try.underlying3 g4
    obtain ⟨ttl, rfl, _⟩ := int_field Try.underlying3 g5
    obtain ⟨proto, rfl, _⟩ := int_field Try.underlying3 g6
    obtain ⟨src, rfl, w7⟩ := int_field Try.underlying22 g7
    obtain ⟨dst, rfl, w8⟩ := int_field Try.underlying22 g8
    obtain ⟨Ao, opts, co, rfl, o1, o2, o3, o4⟩ := bytes_field Try.underlying23 Try.underlying5 Try.cellsU8 g9
    obtain ⟨Ab, body, cb, rfl, b1, b2, b3, b4⟩ := bytes_field Try.underlying23 Try.underlying5 Try.cellsU8 g10
    exact ⟨⟨tos, id, df, mf, off, ttl, proto, src, dst, opts, body⟩, Ao, co, Ab, cb, rfl, ⟨(bounds_u32 w7).1, (bounds_u32 w7).2, (bounds_u32 w8).1, (bounds_u32 w8).2⟩, o1, o2, o3, o4, b1, b2, b3, b4⟩
end Go.Proofs.Ytmgkkgpdnopeaaa
