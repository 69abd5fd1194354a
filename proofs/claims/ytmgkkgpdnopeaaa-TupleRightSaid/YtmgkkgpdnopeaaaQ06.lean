/- Lemmas, several texts in one. -/
import Derived.Test.YtmgkkgpdnopeaaaQ02
import Derived.Deep.RegionHeld3
import Derived.Deep.DeepCutAuto
import Derived.Test.YtmgkkgpdnopeaaaRows
import Derived.Test.YtmgkkgpdnopeaaaQ01
import Derived.WalkKit
import Derived.ProofKit
import Derived.OpenShut
import Derived.Below
import Derived.Deep.QuietTactic
import Derived.BigQuiet
import Derived.OwnWalk
/- Contracts of the document's own answers for package tuple: low, Nums, Turn, Right. -/
namespace Go.Proofs.Ytmgkkgpdnopeaaa
open Go.ChangeShapes Go.WideShapes Go.ChangeAt Go.RowKit
set_option linter.unusedVariables false
set_option linter.unusedSimpArgs false

theorem tmod_low (n m : Int) (m0 : 0 < m) : (if Int.tmod n m < 0 then Int.tmod n m + m else Int.tmod n m) = n % m := by
  have e1 := Int.tmod_add_mul_tdiv n m
  have e2 := Int.emod_add_mul_ediv n m
  by_cases h : 0 ≤ n
  · rw [Int.tmod_eq_emod_of_nonneg h]
    have := Int.emod_nonneg n (show m ≠ 0 by omega)
    rw [if_neg (by omega)]
  · have h1 : Int.tmod n m = -((-n) % m) := by
      rw [← Int.tmod_eq_emod_of_nonneg (show 0 ≤ -n by omega), Int.neg_tmod]; omega
    have h2 := Int.emod_nonneg (-n) (show m ≠ 0 by omega)
    have h3 := Int.emod_lt_of_pos (-n) m0
    rw [h1]
    by_cases h4 : (-n) % m = 0
    · rw [h4, if_neg (by omega)]
      have : m ∣ n := by have := Int.dvd_of_emod_eq_zero h4; exact (Int.dvd_neg).1 this
      rw [Int.emod_eq_zero_of_dvd this]; rfl
    · rw [if_pos (by omega)]
      have e3 := Int.emod_add_mul_ediv (-n) m
      generalize (-n) % m = r at *
      generalize (-n) / m = q at *
      have e4 : n = (m - r) + m * (-q - 1) := by rw [Int.mul_sub, Int.mul_neg, Int.mul_one]; omega
      rw [e4, Int.add_mul_emod_self_left, Int.emod_eq_of_lt (by omega) (by omega)]
      omega
set_option maxRecDepth 100000 in
set_option maxHeartbeats 4000000 in
theorem rlow (n m : Int) (w : World) (m0 : 0 < m) (m1 : m ≤ 65536) :
    Calls Try.prog 54 #[.int .i64 n, .int .i64 m] w fun e w' => e = .returned (.int .i64 (n % m)) ∧ w = w' := by
  have ht := tmod_low n m m0
  have b1 := Int.tmod_lt_of_pos n m0
  have b2 : -m < Int.tmod n m := Int.lt_tmod_of_pos n m0
  have f1 : IntKind.i64.wrap (Int.tmod n m) = Int.tmod n m := IntWalk.i64_in _ (by omega)
  have hm : ¬ m = 0 := by omega
  obtain ⟨k, hk⟩ : ∃ k, Int.tmod n m = k := ⟨_, rfl⟩
  by_cases h : k < 0
  · have f2 : IntKind.i64.wrap (k + m) = k + m := IntWalk.i64_in _ (by omega)
    rw [hk] at ht f1 b1 b2
    rw [if_pos h] at ht
    have HT := Go.Lib.hid ht
    clear ht b1 b2
    go_enter Try.func54, Try.ntmps54
    go_wp2
    go_ret
    exact ⟨by rw [← HT.out]; rfl, rfl⟩
  · rw [hk] at ht f1 b1 b2
    rw [if_neg h] at ht
    have HT := Go.Lib.hid ht
    clear ht b1 b2
    go_enter Try.func54, Try.ntmps54
    go_wp2
    go_ret
    exact ⟨by rw [← HT.out]; rfl, rfl⟩
set_option maxRecDepth 100000 in
set_option maxHeartbeats 4000000 in
theorem rturn (t : Tp) (w : World) : Calls Try.prog 12 #[tpV t] w fun e w' => e = .returned (tpV (turnT t)) ∧ Below w.heap.size w w' := by
  have y0 : Below w.heap.size w ((w.alloc (oTp t)).alloc (oTp tp0)) := below_alloc (below_alloc (Below.refl _ _) (Nat.le_refl _) _) (by simp) _
  have h1 := (Bxo.made w 27 (tpL t)).alloc (oTp tp0)
  have h2 : Bxo ((w.alloc (oTp t)).alloc (oTp tp0)) (w.heap.size + 1) 27 (tpL tp0) := by
    have := Bxo.made (w.alloc (oTp t)) 27 (tpL tp0)
    simpa using this
  go_enter Try.func12, Try.ntmps12
  go_upto_region 1 with fail
  generalize ((w.alloc (oTp t)).alloc (oTp tp0)) = W at *
  have H1 := Go.Lib.hid h1
  have H2 := Go.Lib.hid h2
  clear h1 h2
  have c0 := H1.out.cell 0 rfl
  have c1 := H1.out.cell 1 rfl
  have c2 := H1.out.cell 2 rfl
  have c3 := H1.out.cell 3 rfl
  have c4 := H1.out.cell 4 rfl
  go_wp2_with (refine wpList_store_any rfl 27 _ _ rfl (w.heap.size + 1) 0 27 _ (tpL (turnT t)) _ rfl rfl rfl H2.out info_tp (by show 0 + 5 ≤ 5; omega) (tp_one _) ?_; intro wF hbF hoF; have HBF := Go.Lib.hid hbF; clear hbF)
  exact bodyPost_ret (v := tpV (turnT t)) (results_cell_row rfl _ _ (w.heap.size + 1) 27 _ _ _ rfl HBF.out Try.underlying27 rfl info_tp) rfl ⟨rfl, y0.trans (hoF.below (show w.heap.size ≤ w.heap.size + 1 by omega))⟩
set_option maxRecDepth 100000 in
set_option maxHeartbeats 4000000 in
theorem rright9 (t : Tp) (w : World) (b : Bool) (hb : rightT t = b) : Calls Try.prog 14 #[tpV t] w fun e w' => e = .returned (.bool b) ∧ Below w.heap.size w w' := by
  have HB := Go.Lib.hid hb
  have y0 : Below w.heap.size w (w.alloc (oTp t)) := (Below.refl _ _).alloc (Nat.le_refl _) _
  have h1 := Bxo.made w 27 (tpL t)
  clear hb
  go_enter Try.func14, Try.ntmps14
  go_upto_region 1 with fail
  generalize w.alloc (oTp t) = W at *
  have c0 := h1.cell 0 rfl
  have c2 := h1.cell 2 rfl
  have c4 := h1.cell 4 rfl
  clear h1
  by_cases h0 : 0 ≤ t.proto
  · by_cases h1 : t.proto < 256
    · by_cases h2 : 0 ≤ t.sport
      · by_cases h3 : t.sport < 65536
        · by_cases h4 : 0 ≤ t.dport
          · by_cases h5 : t.dport < 65536
            · go_wp2
              go_ret
              exact ⟨ret_bool (by rw [← HB.out]; unfold rightT inT; first | (simp [*]; done) | (simp [*]; omega)), y0⟩
            · go_wp2
              go_ret
              exact ⟨ret_bool (by rw [← HB.out]; unfold rightT inT; first | (simp [*]; done) | (simp [*]; omega)), y0⟩
          · go_wp2
            go_ret
            exact ⟨ret_bool (by rw [← HB.out]; unfold rightT inT; first | (simp [*]; done) | (simp [*]; omega)), y0⟩
        · go_wp2
          go_ret
          exact ⟨ret_bool (by rw [← HB.out]; unfold rightT inT; first | (simp [*]; done) | (simp [*]; omega)), y0⟩
      · go_wp2
        go_ret
        exact ⟨ret_bool (by rw [← HB.out]; unfold rightT inT; first | (simp [*]; done) | (simp [*]; omega)), y0⟩
    · go_wp2
      go_ret
      exact ⟨ret_bool (by rw [← HB.out]; unfold rightT inT; first | (simp [*]; done) | (simp [*]; omega)), y0⟩
  · go_wp2
    go_ret
    exact ⟨ret_bool (by rw [← HB.out]; unfold rightT inT; first | (simp [*]; done) | (simp [*]; omega)), y0⟩
abbrev nmL (t : Tp) : List Value := [.int .i64 (t.proto % 256), .int .i64 t.src, .int .i64 (t.sport % 65536), .int .i64 t.dst, .int .i64 (t.dport % 65536)]
theorem info_n5 : (Try.prog.info? 67).map (·.size) = some 5 := by kernel_rfl
set_option maxRecDepth 100000 in
set_option maxHeartbeats 4000000 in
theorem rnums (t : Tp) (ht : RngTp t) (w : World) : Calls Try.prog 29 #[tpV t] w fun e w' => e = .returned (.agg (nmL t).toArray) ∧ Below w.heap.size w w' := by
  have s0 := ht.s0
  have s1 := ht.s1
  have d0 := ht.d0
  have d1 := ht.d1
  have cv1 : IntKind.i64.wrap t.src = t.src := IntWalk.i64_in _ (by omega)
  have cv2 : IntKind.i64.wrap t.dst = t.dst := IntWalk.i64_in _ (by omega)
  have y0 : Below w.heap.size w ((w.alloc (oTp t)).alloc (.cells #[.int .i64 0, .int .i64 0, .int .i64 0, .int .i64 0, .int .i64 0] 67)) := below_alloc (below_alloc (Below.refl _ _) (Nat.le_refl _) _) (by simp) _
  have h1 := (Bxo.made w 27 (tpL t)).alloc (.cells #[.int .i64 0, .int .i64 0, .int .i64 0, .int .i64 0, .int .i64 0] 67)
  have h2 : Bxo ((w.alloc (oTp t)).alloc (.cells #[.int .i64 0, .int .i64 0, .int .i64 0, .int .i64 0, .int .i64 0] 67)) (w.heap.size + 1) 67 [.int .i64 0, .int .i64 0, .int .i64 0, .int .i64 0, .int .i64 0] := by
    have := Bxo.made (w.alloc (oTp t)) 67 [.int .i64 0, .int .i64 0, .int .i64 0, .int .i64 0, .int .i64 0]
    simpa using this
  go_enter Try.func29, Try.ntmps29
  go_upto_region 1 with fail
  generalize ((w.alloc (oTp t)).alloc (.cells #[.int .i64 0, .int .i64 0, .int .i64 0, .int .i64 0, .int .i64 0] 67)) = W at *
  have H1 := Go.Lib.hid h1
  have H2 := Go.Lib.hid h2
  clear h1 h2 ht
  try simp only [Act.put, List.setIfInBounds_toArray, List.set_cons_zero, List.set_cons_succ]
  refine wp_region_held_drew (S := fun Y => Bxo Y w.heap.size 27 (tpL t)) (by kernel_rfl) ?_ (fun hHeld => ?_)
  · exact H1.out.drew
  refine wpAnyH_take (i := 0) (oi := ⟨some 3, _, _, _, _, _⟩) (v := ?_) rfl (by kernel_rfl) (by kernel_rfl) (by kernel_rfl) (fun _ _ _ h => h) (Or.inl ⟨by rfl, ?_⟩) (by assumption) ?_
  rotate_left
  · intro w hSw; (try dsimp only at hSw); go_simp; (try with_reducible rfl)
  try simp only [Act.put, List.setIfInBounds_toArray, List.set_cons_zero, List.set_cons_succ]
  refine wpAnyH_take (i := 1) (oi := ⟨some 4, _, _, _, _, _⟩) (v := ?_) rfl (by kernel_rfl) (by kernel_rfl) (by kernel_rfl) (fun _ _ _ h => h) (Or.inl ⟨by rfl, ?_⟩) (by assumption) ?_
  rotate_left
  · intro w hSw; have x0 := hSw.cell 0 rfl; (try dsimp only at hSw); go_simp; (try with_reducible rfl)
  try simp only [Act.put, List.setIfInBounds_toArray, List.set_cons_zero, List.set_cons_succ]
  refine wpAnyH_take (i := 3) (oi := ⟨some 6, _, _, _, _, _⟩) (v := ?_) rfl (by kernel_rfl) (by kernel_rfl) (by kernel_rfl) (fun _ _ _ h => h) (Or.inl ⟨by rfl, ?_⟩) (by assumption) ?_
  rotate_left
  · intro w hSw; (try dsimp only at hSw); go_simp; (try with_reducible rfl)
  try simp only [Act.put, List.setIfInBounds_toArray, List.set_cons_zero, List.set_cons_succ]
  refine wpAnyH_take (i := 4) (oi := ⟨some 7, _, _, _, _, _⟩) (v := ?_) rfl (by kernel_rfl) (by kernel_rfl) (by kernel_rfl) (fun _ _ _ h => h) (Or.inl ⟨by rfl, ?_⟩) (by assumption) ?_
  rotate_left
  · intro w hSw; have x1 := hSw.cell 1 rfl; (try dsimp only at hSw); go_simp; (try with_reducible rfl)
  try simp only [Act.put, List.setIfInBounds_toArray, List.set_cons_zero, List.set_cons_succ]
  refine wpAnyH_take (i := 5) (oi := ⟨some 8, _, _, _, _, _⟩) (v := ?_) rfl (by kernel_rfl) (by kernel_rfl) (by kernel_rfl) (fun _ _ _ h => h) (Or.inl ⟨by rfl, ?_⟩) (by assumption) ?_
  rotate_left
  · intro w hSw; (try dsimp only at hSw); go_simp; (try with_reducible rfl)
  try simp only [Act.put, List.setIfInBounds_toArray, List.set_cons_zero, List.set_cons_succ]
  refine wpAnyH_take (i := 6) (oi := ⟨some 9, _, _, _, _, _⟩) (v := ?_) rfl (by kernel_rfl) (by kernel_rfl) (by kernel_rfl) (fun _ _ _ h => h) (Or.inl ⟨by rfl, ?_⟩) (by assumption) ?_
  rotate_left
  · intro w hSw; (try dsimp only at hSw); go_simp; (try with_reducible rfl)
  try simp only [Act.put, List.setIfInBounds_toArray, List.set_cons_zero, List.set_cons_succ]
  refine wpAnyH_take (i := 7) (oi := ⟨some 10, _, _, _, _, _⟩) (v := ?_) rfl (by kernel_rfl) (by kernel_rfl) (by kernel_rfl) (fun _ _ _ h => h) (Or.inl ⟨by rfl, ?_⟩) (by assumption) ?_
  rotate_left
  · intro w hSw; have x2 := hSw.cell 2 rfl; (try dsimp only at hSw); go_simp; (try with_reducible rfl)
  try simp only [Act.put, List.setIfInBounds_toArray, List.set_cons_zero, List.set_cons_succ]
  refine wpAnyH_take (i := 9) (oi := ⟨some 12, _, _, _, _, _⟩) (v := ?_) rfl (by kernel_rfl) (by kernel_rfl) (by kernel_rfl) (fun _ _ _ h => h) (Or.inl ⟨by rfl, ?_⟩) (by assumption) ?_
  rotate_left
  · intro w hSw; (try dsimp only at hSw); go_simp; (try with_reducible rfl)
  try simp only [Act.put, List.setIfInBounds_toArray, List.set_cons_zero, List.set_cons_succ]
  refine wpAnyH_take (i := 10) (oi := ⟨some 13, _, _, _, _, _⟩) (v := ?_) rfl (by kernel_rfl) (by kernel_rfl) (by kernel_rfl) (fun _ _ _ h => h) (Or.inl ⟨by rfl, ?_⟩) (by assumption) ?_
  rotate_left
  · intro w hSw; have x3 := hSw.cell 3 rfl; (try dsimp only at hSw); go_simp; (try with_reducible rfl)
  try simp only [Act.put, List.setIfInBounds_toArray, List.set_cons_zero, List.set_cons_succ]
  refine wpAnyH_take (i := 11) (oi := ⟨some 14, _, _, _, _, _⟩) (v := ?_) rfl (by kernel_rfl) (by kernel_rfl) (by kernel_rfl) (fun _ _ _ h => h) (Or.inl ⟨by rfl, ?_⟩) (by assumption) ?_
  rotate_left
  · intro w hSw; (try dsimp only at hSw); go_simp; (try with_reducible rfl)
  try simp only [Act.put, List.setIfInBounds_toArray, List.set_cons_zero, List.set_cons_succ]
  refine wpAnyH_take (i := 12) (oi := ⟨some 15, _, _, _, _, _⟩) (v := ?_) rfl (by kernel_rfl) (by kernel_rfl) (by kernel_rfl) (fun _ _ _ h => h) (Or.inl ⟨by rfl, ?_⟩) (by assumption) ?_
  rotate_left
  · intro w hSw; (try dsimp only at hSw); go_simp; (try with_reducible rfl)
  try simp only [Act.put, List.setIfInBounds_toArray, List.set_cons_zero, List.set_cons_succ]
  refine wpAnyH_take (i := 13) (oi := ⟨some 16, _, _, _, _, _⟩) (v := ?_) rfl (by kernel_rfl) (by kernel_rfl) (by kernel_rfl) (fun _ _ _ h => h) (Or.inl ⟨by rfl, ?_⟩) (by assumption) ?_
  rotate_left
  · intro w hSw; have x4 := hSw.cell 4 rfl; (try dsimp only at hSw); go_simp; (try with_reducible rfl)
  try simp only [Act.put, List.setIfInBounds_toArray, List.set_cons_zero, List.set_cons_succ]
  refine wpAnyH_ready (rs := [2]) (by kernel_rfl) (by simp) (AllReadyH.cons (o := ⟨some 5, _, _, _, _, _⟩) rfl (fun Kc hKc => ?_) AllReadyH.nil)
  go_simp
  go_at_call 54; refine (rlow t.proto 256 _ (by omega) (by omega)).mono ?_; rintro e wl ⟨rfl, rfl⟩; dsimp only
  refine hKc.out _ _ (hHeld) (fun hHeld => ?_)
  clear hKc Kc
  try simp only [Act.put, List.setIfInBounds_toArray, List.set_cons_zero, List.set_cons_succ]
  refine wpAnyH_ready (rs := [8]) (by kernel_rfl) (by simp) (AllReadyH.cons (o := ⟨some 11, _, _, _, _, _⟩) rfl (fun Kc hKc => ?_) AllReadyH.nil)
  go_simp
  go_at_call 54; refine (rlow t.sport 65536 _ (by omega) (by omega)).mono ?_; rintro e wl ⟨rfl, rfl⟩; dsimp only
  refine hKc.out _ _ (hHeld) (fun hHeld => ?_)
  clear hKc Kc
  try simp only [Act.put, List.setIfInBounds_toArray, List.set_cons_zero, List.set_cons_succ]
  refine wpAnyH_ready (rs := [14]) (by kernel_rfl) (by simp) (AllReadyH.cons (o := ⟨some 17, _, _, _, _, _⟩) rfl (fun Kc hKc => ?_) AllReadyH.nil)
  go_simp
  go_at_call 54; refine (rlow t.dport 65536 _ (by omega) (by omega)).mono ?_; rintro e wl ⟨rfl, rfl⟩; dsimp only
  refine hKc.out _ _ (hHeld) (fun hHeld => ?_)
  clear hKc Kc
  try simp only [Act.put, List.setIfInBounds_toArray, List.set_cons_zero, List.set_cons_succ]
  refine wpAnyH_take (i := 15) (oi := ⟨some 18, _, _, _, _, _⟩) (v := ?_) rfl (by kernel_rfl) (by kernel_rfl) (by kernel_rfl) (fun _ _ _ h => h) (Or.inl ⟨by rfl, ?_⟩) (by assumption) ?_
  rotate_left
  · intro w hSw; (try dsimp only at hSw); go_simp; (try with_reducible rfl)
  try simp only [Act.put, List.setIfInBounds_toArray, List.set_cons_zero, List.set_cons_succ]
  refine wpAnyH_ready (rs := [16]) (by kernel_rfl) (by simp) (AllReadyH.cons (o := ⟨none, _, _, _, _, _⟩) rfl (fun Kc hKc => ?_) AllReadyH.nil)
  rw [if_pos (by rfl)]
  refine step_store_any 67 _ _ rfl (w.heap.size + 1) 0 67 _ (nmL t) _ rfl rfl rfl H2.out info_n5 (by show 0 + 5 ≤ 5; omega) (by simp [Value.oneCell']) ?_; intro wF hbF hoF; have HBF := Go.Lib.hid hbF; clear hbF
  refine hKc.out _ _ (hHeld.only hoF (by omega)) (fun hHeld => ?_)
  clear hKc Kc
  try simp only [Act.put, List.setIfInBounds_toArray, List.set_cons_zero, List.set_cons_succ]
  refine wpAnyH_done (by kernel_rfl) ?_ _
  go_wp2
  exact bodyPost_ret (v := .agg (nmL t).toArray) (results_cell_row rfl _ _ (w.heap.size + 1) 67 _ _ _ rfl HBF.out Try.underlying67 rfl info_n5) rfl ⟨rfl, y0.drew.trans (hoF.below (show w.heap.size ≤ w.heap.size + 1 by omega))⟩
end Go.Proofs.Ytmgkkgpdnopeaaa

/- Contracts of the document's own answers for package tuple: Less. -/
namespace Go.Proofs.Ytmgkkgpdnopeaaa
open Go.ChangeShapes Go.WideShapes Go.ChangeAt Go.RowKit
set_option linter.unusedVariables false
set_option linter.unusedSimpArgs false

theorem info_zn5 : (Try.prog.info? 67).map (·.zero) = some (some (.agg #[.int .i64 0, .int .i64 0, .int .i64 0, .int .i64 0, .int .i64 0])) := by kernel_rfl
theorem n5_one (t : Tp) : ∀ u ∈ nmL t, u.oneCell' = true := by simp [Value.oneCell']
theorem nm_get (t : Tp) (k : Nat) (h : k < (numsT t).length) : (nmL t)[k]? = some (.int .i64 (numsT t)[k]) := by
  match k, h with
  | 0, _ => rfl
  | 1, _ => rfl
  | 2, _ => rfl
  | 3, _ => rfl
  | 4, _ => rfl
  | m + 5, h => exact absurd h (by simp [numsT])
theorem lessL_drop (x y : List Int) (k : Nat) (hx : k < x.length) (hy : k < y.length) : lessL (x.drop k) (y.drop k) = if x[k] = y[k] then lessL (x.drop (k + 1)) (y.drop (k + 1)) else decide (x[k] < y[k]) := by
  rw [List.drop_eq_getElem_cons hx, List.drop_eq_getElem_cons hy, lessL]
set_option maxRecDepth 100000 in
set_option maxHeartbeats 8000000 in
theorem rless (a b : Tp) (ha : RngTp a) (hb : RngTp b) (w : World) (q : Bool) (hq : lessT a b = q) : Calls Try.prog 18 #[tpV a, tpV b] w fun e w' => e = .returned (.bool q) ∧ Below w.heap.size w w' := by
  have HQ : Hid (lessL ((numsT a).drop 0) ((numsT b).drop 0) = q) := Go.Lib.hid hq
  have y0 : Below w.heap.size w ((w.alloc (oTp a)).alloc (oTp b)) := below_alloc (below_alloc (Below.refl _ _) (Nat.le_refl _) _) (by simp) _
  have h1 := (Bxo.made w 27 (tpL a)).alloc (oTp b)
  have h2 : Bxo ((w.alloc (oTp a)).alloc (oTp b)) (w.heap.size + 1) 27 (tpL b) := by
    have := Bxo.made (w.alloc (oTp a)) 27 (tpL b)
    simpa using this
  have hz : ((w.alloc (oTp a)).alloc (oTp b)).heap.size = w.heap.size + 2 := by simp
  clear hq
  go_enter Try.func18, Try.ntmps18
  go_upto_region 1 with fail
  generalize ((w.alloc (oTp a)).alloc (oTp b)) = W at *
  have HA := Go.Lib.hid h1
  have HB := Go.Lib.hid h2
  clear h1 h2
  go_cut [5, 6] (fun p5 p6 wx => ∃ g5 g6, p5 = .pointer (some ⟨g5, 0, none⟩) ∧ p6 = .pointer (some ⟨g6, 0, none⟩) ∧ g5 ≠ g6 ∧ Bxo wx g5 67 (nmL a) ∧ Bxo wx g6 67 (nmL b) ∧ Below w.heap.size w wx)
  case first =>
    try simp only [Act.put, List.setIfInBounds_toArray, List.set_cons_zero, List.set_cons_succ]
    refine wp_region_held_drew (S := fun Y => Below W.heap.size W Y) (by kernel_rfl) ?_ (fun hHeld => ?_)
    · exact below_drew (Below.refl _ _)
    have zd : W.drew.heap.size ≤ W.heap.size := Nat.le_refl _; have zd2 : W.heap.size ≤ W.drew.heap.size := Nat.le_refl _
    refine wpAnyH_take (i := 0) (oi := ⟨some 8, _, _, _, _, _⟩) (v := (tpV a)) rfl (by kernel_rfl) (by kernel_rfl) (by kernel_rfl) (fun _ _ _ h => h) (yieldsIf_load_at (by rfl) 27 _ rfl ⟨w.heap.size, 0, none⟩ rfl (tpL a) _ (fun Y h => (HA.out.keep h HA.out.lt).at) Try.underlying27 rfl info_tp) (by assumption) ?_
    try simp only [Act.put, List.setIfInBounds_toArray, List.set_cons_zero, List.set_cons_succ]
    refine wpAnyH_take (i := 2) (oi := ⟨some 10, _, _, _, _, _⟩) (v := (tpV b)) rfl (by kernel_rfl) (by kernel_rfl) (by kernel_rfl) (fun _ _ _ h => h) (yieldsIf_load_at (by rfl) 27 _ rfl ⟨w.heap.size + 1, 0, none⟩ rfl (tpL b) _ (fun Y h => (HB.out.keep h HB.out.lt).at) Try.underlying27 rfl info_tp) (by assumption) ?_
    try simp only [Act.put, List.setIfInBounds_toArray, List.set_cons_zero, List.set_cons_succ]
    refine wpAnyH_ready (rs := [1, 4, 5]) (by kernel_rfl) (by simp) (AllReadyH.cons (o := ⟨some 9, _, _, _, _, _⟩) rfl (fun Kc hKc => ?_) (AllReadyH.cons (o := ⟨some 5, _, _, _, _, _⟩) rfl (fun Kc hKc => ?_) (AllReadyH.cons (o := ⟨some 6, _, _, _, _, _⟩) rfl (fun Kc hKc => ?_) AllReadyH.nil)))
    ·
      have zhq1 := hHeld.size
      go_simp
      go_at_call 29; refine (rnums a ha W.drew).mono ?_; rintro e wq1 ⟨rfl, yq1⟩; dsimp only
      have zq1 := yq1.size
      refine hKc.out _ _ (hHeld.trans (yq1.mono hHeld.size)) (fun hHeld => ?_)
      clear hKc Kc
      try simp only [Act.put, List.setIfInBounds_toArray, List.set_cons_zero, List.set_cons_succ]
      refine wpAnyH_ready (rs := [3, 4, 5]) (by kernel_rfl) (by simp) (AllReadyH.cons (o := ⟨some 11, _, _, _, _, _⟩) rfl (fun Kc hKc => ?_) (AllReadyH.cons (o := ⟨some 5, _, _, _, _, _⟩) rfl (fun Kc hKc => ?_) (AllReadyH.cons (o := ⟨some 6, _, _, _, _, _⟩) rfl (fun Kc hKc => ?_) AllReadyH.nil)))
      ·
        have zhq2 := hHeld.size
        go_simp
        go_at_call 29; refine (rnums b hb wq1).mono ?_; rintro e wq2 ⟨rfl, yq2⟩; dsimp only
        have zq2 := yq2.size
        refine hKc.out _ _ (hHeld.trans (yq2.mono hHeld.size)) (fun hHeld => ?_)
        clear hKc Kc
        try simp only [Act.put, List.setIfInBounds_toArray, List.set_cons_zero, List.set_cons_succ]
        refine wpAnyH_ready (rs := [4, 5]) (by kernel_rfl) (by simp) (AllReadyH.cons (o := ⟨some 5, _, _, _, _, _⟩) rfl (fun Kc hKc => ?_) (AllReadyH.cons (o := ⟨some 6, _, _, _, _, _⟩) rfl (fun Kc hKc => ?_) AllReadyH.nil))
        ·
          have zhq3 := hHeld.size
          rw [if_pos (by rfl)]
          refine step_alloc 67 rfl [.int .i64 0, .int .i64 0, .int .i64 0, .int .i64 0, .int .i64 0] info_zn5 ?_; intro g5 wq3 hgq3 hbq3 yq3 hzq3; have F5 := Go.Lib.hid hbq3; clear hbq3; obtain ⟨hgq3a, hgq3b⟩ := hgq3; obtain ⟨hzq3a, hzq3b⟩ := hzq3
          have zq3 := yq3.size
          refine hKc.out _ _ (hHeld.trans (yq3.mono hHeld.size)) (fun hHeld => ?_)
          clear hKc Kc
          try simp only [Act.put, List.setIfInBounds_toArray, List.set_cons_zero, List.set_cons_succ]
          refine wpAnyH_ready (rs := [5]) (by kernel_rfl) (by simp) (AllReadyH.cons (o := ⟨some 6, _, _, _, _, _⟩) rfl (fun Kc hKc => ?_) AllReadyH.nil)
          have zhq4 := hHeld.size
          rw [if_pos (by rfl)]
          refine step_alloc 67 rfl [.int .i64 0, .int .i64 0, .int .i64 0, .int .i64 0, .int .i64 0] info_zn5 ?_; intro g6 wq4 hgq4 hbq4 yq4 hzq4; have F6 := Go.Lib.hid hbq4; clear hbq4; obtain ⟨hgq4a, hgq4b⟩ := hgq4; obtain ⟨hzq4a, hzq4b⟩ := hzq4
          have zq4 := yq4.size
          have F5 := Go.Lib.hid (F5.out.keep yq4 F5.out.lt)
          refine hKc.out _ _ (hHeld.trans (yq4.mono hHeld.size)) (fun hHeld => ?_)
          clear hKc Kc
          try simp only [Act.put, List.setIfInBounds_toArray, List.set_cons_zero, List.set_cons_succ]
          refine wpAnyH_ready (rs := [6]) (by kernel_rfl) (by simp) (AllReadyH.cons (o := ⟨none, _, _, _, _, _⟩) rfl (fun Kc hKc => ?_) AllReadyH.nil)
          have zhq5 := hHeld.size
          rw [if_pos (by rfl)]
          refine step_store_any 67 _ _ rfl g5 0 67 _ (nmL a) _ rfl rfl rfl F5.out info_n5 (by show 0 + 5 ≤ 5; omega) (n5_one a) ?_; intro wq5 hbq5 hoq5; have Zq5 := Go.Lib.hid hbq5; clear hbq5
          have zq5 := hoq5.size
          have F5 : Hid (Bxo wq5 g5 67 (nmL a)) := Go.Lib.hid Zq5.out
          have F6 := Go.Lib.hid (F6.out.only hoq5 (by omega))
          refine hKc.out _ _ (hHeld.trans (hoq5.below (by omega))) (fun hHeld => ?_)
          clear hKc Kc
          try simp only [Act.put, List.setIfInBounds_toArray, List.set_cons_zero, List.set_cons_succ]
          refine wpAnyH_ready (rs := [7]) (by kernel_rfl) (by simp) (AllReadyH.cons (o := ⟨none, _, _, _, _, _⟩) rfl (fun Kc hKc => ?_) AllReadyH.nil)
          have zhq6 := hHeld.size
          rw [if_pos (by rfl)]
          refine step_store_any 67 _ _ rfl g6 0 67 _ (nmL b) _ rfl rfl rfl F6.out info_n5 (by show 0 + 5 ≤ 5; omega) (n5_one b) ?_; intro wq6 hbq6 hoq6; have Zq6 := Go.Lib.hid hbq6; clear hbq6
          have zq6 := hoq6.size
          have F5 := Go.Lib.hid (F5.out.only hoq6 (by omega))
          have F6 : Hid (Bxo wq6 g6 67 (nmL b)) := Go.Lib.hid Zq6.out
          refine hKc.out _ _ (hHeld.trans (hoq6.below (by omega))) (fun hHeld => ?_)
          clear hKc Kc
          try simp only [Act.put, List.setIfInBounds_toArray, List.set_cons_zero, List.set_cons_succ]
          refine wpAnyH_done (by kernel_rfl) ?_ _
          go_wp2_with fail
          go_meet
          exact ⟨g5, g6, rfl, rfl, by omega, F5.out, F6.out, y0.trans (hHeld.mono y0.size)⟩
        ·
          have zhq7 := hHeld.size
          rw [if_pos (by rfl)]
          refine step_alloc 67 rfl [.int .i64 0, .int .i64 0, .int .i64 0, .int .i64 0, .int .i64 0] info_zn5 ?_; intro g6 wq7 hgq7 hbq7 yq7 hzq7; have F6 := Go.Lib.hid hbq7; clear hbq7; obtain ⟨hgq7a, hgq7b⟩ := hgq7; obtain ⟨hzq7a, hzq7b⟩ := hzq7
          have zq7 := yq7.size
          refine hKc.out _ _ (hHeld.trans (yq7.mono hHeld.size)) (fun hHeld => ?_)
          clear hKc Kc
          try simp only [Act.put, List.setIfInBounds_toArray, List.set_cons_zero, List.set_cons_succ]
          refine wpAnyH_ready (rs := [4]) (by kernel_rfl) (by simp) (AllReadyH.cons (o := ⟨some 5, _, _, _, _, _⟩) rfl (fun Kc hKc => ?_) AllReadyH.nil)
          have zhq8 := hHeld.size
          rw [if_pos (by rfl)]
          refine step_alloc 67 rfl [.int .i64 0, .int .i64 0, .int .i64 0, .int .i64 0, .int .i64 0] info_zn5 ?_; intro g5 wq8 hgq8 hbq8 yq8 hzq8; have F5 := Go.Lib.hid hbq8; clear hbq8; obtain ⟨hgq8a, hgq8b⟩ := hgq8; obtain ⟨hzq8a, hzq8b⟩ := hzq8
          have zq8 := yq8.size
          have F6 := Go.Lib.hid (F6.out.keep yq8 F6.out.lt)
          refine hKc.out _ _ (hHeld.trans (yq8.mono hHeld.size)) (fun hHeld => ?_)
          clear hKc Kc
          try simp only [Act.put, List.setIfInBounds_toArray, List.set_cons_zero, List.set_cons_succ]
          refine wpAnyH_ready (rs := [6]) (by kernel_rfl) (by simp) (AllReadyH.cons (o := ⟨none, _, _, _, _, _⟩) rfl (fun Kc hKc => ?_) AllReadyH.nil)
          have zhq9 := hHeld.size
          rw [if_pos (by rfl)]
          refine step_store_any 67 _ _ rfl g5 0 67 _ (nmL a) _ rfl rfl rfl F5.out info_n5 (by show 0 + 5 ≤ 5; omega) (n5_one a) ?_; intro wq9 hbq9 hoq9; have Zq9 := Go.Lib.hid hbq9; clear hbq9
          have zq9 := hoq9.size
          have F6 := Go.Lib.hid (F6.out.only hoq9 (by omega))
          have F5 : Hid (Bxo wq9 g5 67 (nmL a)) := Go.Lib.hid Zq9.out
          refine hKc.out _ _ (hHeld.trans (hoq9.below (by omega))) (fun hHeld => ?_)
          clear hKc Kc
          try simp only [Act.put, List.setIfInBounds_toArray, List.set_cons_zero, List.set_cons_succ]
          refine wpAnyH_ready (rs := [7]) (by kernel_rfl) (by simp) (AllReadyH.cons (o := ⟨none, _, _, _, _, _⟩) rfl (fun Kc hKc => ?_) AllReadyH.nil)
          have zhq10 := hHeld.size
          rw [if_pos (by rfl)]
          refine step_store_any 67 _ _ rfl g6 0 67 _ (nmL b) _ rfl rfl rfl F6.out info_n5 (by show 0 + 5 ≤ 5; omega) (n5_one b) ?_; intro wq10 hbq10 hoq10; have Zq10 := Go.Lib.hid hbq10; clear hbq10
          have zq10 := hoq10.size
          have F6 : Hid (Bxo wq10 g6 67 (nmL b)) := Go.Lib.hid Zq10.out
          have F5 := Go.Lib.hid (F5.out.only hoq10 (by omega))
          refine hKc.out _ _ (hHeld.trans (hoq10.below (by omega))) (fun hHeld => ?_)
          clear hKc Kc
          try simp only [Act.put, List.setIfInBounds_toArray, List.set_cons_zero, List.set_cons_succ]
          refine wpAnyH_done (by kernel_rfl) ?_ _
          go_wp2_with fail
          go_meet
          exact ⟨g5, g6, rfl, rfl, by omega, F5.out, F6.out, y0.trans (hHeld.mono y0.size)⟩
      ·
        have zhq11 := hHeld.size
        rw [if_pos (by rfl)]
        refine step_alloc 67 rfl [.int .i64 0, .int .i64 0, .int .i64 0, .int .i64 0, .int .i64 0] info_zn5 ?_; intro g5 wq11 hgq11 hbq11 yq11 hzq11; have F5 := Go.Lib.hid hbq11; clear hbq11; obtain ⟨hgq11a, hgq11b⟩ := hgq11; obtain ⟨hzq11a, hzq11b⟩ := hzq11
        have zq11 := yq11.size
        refine hKc.out _ _ (hHeld.trans (yq11.mono hHeld.size)) (fun hHeld => ?_)
        clear hKc Kc
        try simp only [Act.put, List.setIfInBounds_toArray, List.set_cons_zero, List.set_cons_succ]
        refine wpAnyH_ready (rs := [3, 5]) (by kernel_rfl) (by simp) (AllReadyH.cons (o := ⟨some 11, _, _, _, _, _⟩) rfl (fun Kc hKc => ?_) (AllReadyH.cons (o := ⟨some 6, _, _, _, _, _⟩) rfl (fun Kc hKc => ?_) AllReadyH.nil))
        ·
          have zhq12 := hHeld.size
          go_simp
          go_at_call 29; refine (rnums b hb wq11).mono ?_; rintro e wq12 ⟨rfl, yq12⟩; dsimp only
          have zq12 := yq12.size
          have F5 := Go.Lib.hid (F5.out.keep yq12 F5.out.lt)
          refine hKc.out _ _ (hHeld.trans (yq12.mono hHeld.size)) (fun hHeld => ?_)
          clear hKc Kc
          try simp only [Act.put, List.setIfInBounds_toArray, List.set_cons_zero, List.set_cons_succ]
          refine wpAnyH_ready (rs := [5]) (by kernel_rfl) (by simp) (AllReadyH.cons (o := ⟨some 6, _, _, _, _, _⟩) rfl (fun Kc hKc => ?_) AllReadyH.nil)
          have zhq13 := hHeld.size
          rw [if_pos (by rfl)]
          refine step_alloc 67 rfl [.int .i64 0, .int .i64 0, .int .i64 0, .int .i64 0, .int .i64 0] info_zn5 ?_; intro g6 wq13 hgq13 hbq13 yq13 hzq13; have F6 := Go.Lib.hid hbq13; clear hbq13; obtain ⟨hgq13a, hgq13b⟩ := hgq13; obtain ⟨hzq13a, hzq13b⟩ := hzq13
          have zq13 := yq13.size
          have F5 := Go.Lib.hid (F5.out.keep yq13 F5.out.lt)
          refine hKc.out _ _ (hHeld.trans (yq13.mono hHeld.size)) (fun hHeld => ?_)
          clear hKc Kc
          try simp only [Act.put, List.setIfInBounds_toArray, List.set_cons_zero, List.set_cons_succ]
          refine wpAnyH_ready (rs := [6]) (by kernel_rfl) (by simp) (AllReadyH.cons (o := ⟨none, _, _, _, _, _⟩) rfl (fun Kc hKc => ?_) AllReadyH.nil)
          have zhq14 := hHeld.size
          rw [if_pos (by rfl)]
          refine step_store_any 67 _ _ rfl g5 0 67 _ (nmL a) _ rfl rfl rfl F5.out info_n5 (by show 0 + 5 ≤ 5; omega) (n5_one a) ?_; intro wq14 hbq14 hoq14; have Zq14 := Go.Lib.hid hbq14; clear hbq14
          have zq14 := hoq14.size
          have F5 : Hid (Bxo wq14 g5 67 (nmL a)) := Go.Lib.hid Zq14.out
          have F6 := Go.Lib.hid (F6.out.only hoq14 (by omega))
          refine hKc.out _ _ (hHeld.trans (hoq14.below (by omega))) (fun hHeld => ?_)
          clear hKc Kc
          try simp only [Act.put, List.setIfInBounds_toArray, List.set_cons_zero, List.set_cons_succ]
          refine wpAnyH_ready (rs := [7]) (by kernel_rfl) (by simp) (AllReadyH.cons (o := ⟨none, _, _, _, _, _⟩) rfl (fun Kc hKc => ?_) AllReadyH.nil)
          have zhq15 := hHeld.size
          rw [if_pos (by rfl)]
          refine step_store_any 67 _ _ rfl g6 0 67 _ (nmL b) _ rfl rfl rfl F6.out info_n5 (by show 0 + 5 ≤ 5; omega) (n5_one b) ?_; intro wq15 hbq15 hoq15; have Zq15 := Go.Lib.hid hbq15; clear hbq15
          have zq15 := hoq15.size
          have F5 := Go.Lib.hid (F5.out.only hoq15 (by omega))
          have F6 : Hid (Bxo wq15 g6 67 (nmL b)) := Go.Lib.hid Zq15.out
          refine hKc.out _ _ (hHeld.trans (hoq15.below (by omega))) (fun hHeld => ?_)
          clear hKc Kc
          try simp only [Act.put, List.setIfInBounds_toArray, List.set_cons_zero, List.set_cons_succ]
          refine wpAnyH_done (by kernel_rfl) ?_ _
          go_wp2_with fail
          go_meet
          exact ⟨g5, g6, rfl, rfl, by omega, F5.out, F6.out, y0.trans (hHeld.mono y0.size)⟩
        ·
          have zhq16 := hHeld.size
          rw [if_pos (by rfl)]
          refine step_alloc 67 rfl [.int .i64 0, .int .i64 0, .int .i64 0, .int .i64 0, .int .i64 0] info_zn5 ?_; intro g6 wq16 hgq16 hbq16 yq16 hzq16; have F6 := Go.Lib.hid hbq16; clear hbq16; obtain ⟨hgq16a, hgq16b⟩ := hgq16; obtain ⟨hzq16a, hzq16b⟩ := hzq16
          have zq16 := yq16.size
          have F5 := Go.Lib.hid (F5.out.keep yq16 F5.out.lt)
          refine hKc.out _ _ (hHeld.trans (yq16.mono hHeld.size)) (fun hHeld => ?_)
          clear hKc Kc
          try simp only [Act.put, List.setIfInBounds_toArray, List.set_cons_zero, List.set_cons_succ]
          refine wpAnyH_ready (rs := [3]) (by kernel_rfl) (by simp) (AllReadyH.cons (o := ⟨some 11, _, _, _, _, _⟩) rfl (fun Kc hKc => ?_) AllReadyH.nil)
          have zhq17 := hHeld.size
          go_simp
          go_at_call 29; refine (rnums b hb wq16).mono ?_; rintro e wq17 ⟨rfl, yq17⟩; dsimp only
          have zq17 := yq17.size
          have F5 := Go.Lib.hid (F5.out.keep yq17 F5.out.lt)
          have F6 := Go.Lib.hid (F6.out.keep yq17 F6.out.lt)
          refine hKc.out _ _ (hHeld.trans (yq17.mono hHeld.size)) (fun hHeld => ?_)
          clear hKc Kc
          try simp only [Act.put, List.setIfInBounds_toArray, List.set_cons_zero, List.set_cons_succ]
          refine wpAnyH_ready (rs := [6]) (by kernel_rfl) (by simp) (AllReadyH.cons (o := ⟨none, _, _, _, _, _⟩) rfl (fun Kc hKc => ?_) AllReadyH.nil)
          have zhq18 := hHeld.size
          rw [if_pos (by rfl)]
          refine step_store_any 67 _ _ rfl g5 0 67 _ (nmL a) _ rfl rfl rfl F5.out info_n5 (by show 0 + 5 ≤ 5; omega) (n5_one a) ?_; intro wq18 hbq18 hoq18; have Zq18 := Go.Lib.hid hbq18; clear hbq18
          have zq18 := hoq18.size
          have F5 : Hid (Bxo wq18 g5 67 (nmL a)) := Go.Lib.hid Zq18.out
          have F6 := Go.Lib.hid (F6.out.only hoq18 (by omega))
          refine hKc.out _ _ (hHeld.trans (hoq18.below (by omega))) (fun hHeld => ?_)
          clear hKc Kc
          try simp only [Act.put, List.setIfInBounds_toArray, List.set_cons_zero, List.set_cons_succ]
          refine wpAnyH_ready (rs := [7]) (by kernel_rfl) (by simp) (AllReadyH.cons (o := ⟨none, _, _, _, _, _⟩) rfl (fun Kc hKc => ?_) AllReadyH.nil)
          have zhq19 := hHeld.size
          rw [if_pos (by rfl)]
          refine step_store_any 67 _ _ rfl g6 0 67 _ (nmL b) _ rfl rfl rfl F6.out info_n5 (by show 0 + 5 ≤ 5; omega) (n5_one b) ?_; intro wq19 hbq19 hoq19; have Zq19 := Go.Lib.hid hbq19; clear hbq19
          have zq19 := hoq19.size
          have F5 := Go.Lib.hid (F5.out.only hoq19 (by omega))
          have F6 : Hid (Bxo wq19 g6 67 (nmL b)) := Go.Lib.hid Zq19.out
          refine hKc.out _ _ (hHeld.trans (hoq19.below (by omega))) (fun hHeld => ?_)
          clear hKc Kc
          try simp only [Act.put, List.setIfInBounds_toArray, List.set_cons_zero, List.set_cons_succ]
          refine wpAnyH_done (by kernel_rfl) ?_ _
          go_wp2_with fail
          go_meet
          exact ⟨g5, g6, rfl, rfl, by omega, F5.out, F6.out, y0.trans (hHeld.mono y0.size)⟩
      ·
        have zhq20 := hHeld.size
        rw [if_pos (by rfl)]
        refine step_alloc 67 rfl [.int .i64 0, .int .i64 0, .int .i64 0, .int .i64 0, .int .i64 0] info_zn5 ?_; intro g6 wq20 hgq20 hbq20 yq20 hzq20; have F6 := Go.Lib.hid hbq20; clear hbq20; obtain ⟨hgq20a, hgq20b⟩ := hgq20; obtain ⟨hzq20a, hzq20b⟩ := hzq20
        have zq20 := yq20.size
        refine hKc.out _ _ (hHeld.trans (yq20.mono hHeld.size)) (fun hHeld => ?_)
        clear hKc Kc
        try simp only [Act.put, List.setIfInBounds_toArray, List.set_cons_zero, List.set_cons_succ]
        refine wpAnyH_ready (rs := [3, 4]) (by kernel_rfl) (by simp) (AllReadyH.cons (o := ⟨some 11, _, _, _, _, _⟩) rfl (fun Kc hKc => ?_) (AllReadyH.cons (o := ⟨some 5, _, _, _, _, _⟩) rfl (fun Kc hKc => ?_) AllReadyH.nil))
        ·
          have zhq21 := hHeld.size
          go_simp
          go_at_call 29; refine (rnums b hb wq20).mono ?_; rintro e wq21 ⟨rfl, yq21⟩; dsimp only
          have zq21 := yq21.size
          have F6 := Go.Lib.hid (F6.out.keep yq21 F6.out.lt)
          refine hKc.out _ _ (hHeld.trans (yq21.mono hHeld.size)) (fun hHeld => ?_)
          clear hKc Kc
          try simp only [Act.put, List.setIfInBounds_toArray, List.set_cons_zero, List.set_cons_succ]
          refine wpAnyH_ready (rs := [4]) (by kernel_rfl) (by simp) (AllReadyH.cons (o := ⟨some 5, _, _, _, _, _⟩) rfl (fun Kc hKc => ?_) AllReadyH.nil)
          have zhq22 := hHeld.size
          rw [if_pos (by rfl)]
          refine step_alloc 67 rfl [.int .i64 0, .int .i64 0, .int .i64 0, .int .i64 0, .int .i64 0] info_zn5 ?_; intro g5 wq22 hgq22 hbq22 yq22 hzq22; have F5 := Go.Lib.hid hbq22; clear hbq22; obtain ⟨hgq22a, hgq22b⟩ := hgq22; obtain ⟨hzq22a, hzq22b⟩ := hzq22
          have zq22 := yq22.size
          have F6 := Go.Lib.hid (F6.out.keep yq22 F6.out.lt)
          refine hKc.out _ _ (hHeld.trans (yq22.mono hHeld.size)) (fun hHeld => ?_)
          clear hKc Kc
          try simp only [Act.put, List.setIfInBounds_toArray, List.set_cons_zero, List.set_cons_succ]
          refine wpAnyH_ready (rs := [6]) (by kernel_rfl) (by simp) (AllReadyH.cons (o := ⟨none, _, _, _, _, _⟩) rfl (fun Kc hKc => ?_) AllReadyH.nil)
          have zhq23 := hHeld.size
          rw [if_pos (by rfl)]
          refine step_store_any 67 _ _ rfl g5 0 67 _ (nmL a) _ rfl rfl rfl F5.out info_n5 (by show 0 + 5 ≤ 5; omega) (n5_one a) ?_; intro wq23 hbq23 hoq23; have Zq23 := Go.Lib.hid hbq23; clear hbq23
          have zq23 := hoq23.size
          have F6 := Go.Lib.hid (F6.out.only hoq23 (by omega))
          have F5 : Hid (Bxo wq23 g5 67 (nmL a)) := Go.Lib.hid Zq23.out
          refine hKc.out _ _ (hHeld.trans (hoq23.below (by omega))) (fun hHeld => ?_)
          clear hKc Kc
          try simp only [Act.put, List.setIfInBounds_toArray, List.set_cons_zero, List.set_cons_succ]
          refine wpAnyH_ready (rs := [7]) (by kernel_rfl) (by simp) (AllReadyH.cons (o := ⟨none, _, _, _, _, _⟩) rfl (fun Kc hKc => ?_) AllReadyH.nil)
          have zhq24 := hHeld.size
          rw [if_pos (by rfl)]
          refine step_store_any 67 _ _ rfl g6 0 67 _ (nmL b) _ rfl rfl rfl F6.out info_n5 (by show 0 + 5 ≤ 5; omega) (n5_one b) ?_; intro wq24 hbq24 hoq24; have Zq24 := Go.Lib.hid hbq24; clear hbq24
          have zq24 := hoq24.size
          have F6 : Hid (Bxo wq24 g6 67 (nmL b)) := Go.Lib.hid Zq24.out
          have F5 := Go.Lib.hid (F5.out.only hoq24 (by omega))
          refine hKc.out _ _ (hHeld.trans (hoq24.below (by omega))) (fun hHeld => ?_)
          clear hKc Kc
          try simp only [Act.put, List.setIfInBounds_toArray, List.set_cons_zero, List.set_cons_succ]
          refine wpAnyH_done (by kernel_rfl) ?_ _
          go_wp2_with fail
          go_meet
          exact ⟨g5, g6, rfl, rfl, by omega, F5.out, F6.out, y0.trans (hHeld.mono y0.size)⟩
        ·
          have zhq25 := hHeld.size
          rw [if_pos (by rfl)]
          refine step_alloc 67 rfl [.int .i64 0, .int .i64 0, .int .i64 0, .int .i64 0, .int .i64 0] info_zn5 ?_; intro g5 wq25 hgq25 hbq25 yq25 hzq25; have F5 := Go.Lib.hid hbq25; clear hbq25; obtain ⟨hgq25a, hgq25b⟩ := hgq25; obtain ⟨hzq25a, hzq25b⟩ := hzq25
          have zq25 := yq25.size
          have F6 := Go.Lib.hid (F6.out.keep yq25 F6.out.lt)
          refine hKc.out _ _ (hHeld.trans (yq25.mono hHeld.size)) (fun hHeld => ?_)
          clear hKc Kc
          try simp only [Act.put, List.setIfInBounds_toArray, List.set_cons_zero, List.set_cons_succ]
          refine wpAnyH_ready (rs := [3]) (by kernel_rfl) (by simp) (AllReadyH.cons (o := ⟨some 11, _, _, _, _, _⟩) rfl (fun Kc hKc => ?_) AllReadyH.nil)
          have zhq26 := hHeld.size
          go_simp
          go_at_call 29; refine (rnums b hb wq25).mono ?_; rintro e wq26 ⟨rfl, yq26⟩; dsimp only
          have zq26 := yq26.size
          have F6 := Go.Lib.hid (F6.out.keep yq26 F6.out.lt)
          have F5 := Go.Lib.hid (F5.out.keep yq26 F5.out.lt)
          refine hKc.out _ _ (hHeld.trans (yq26.mono hHeld.size)) (fun hHeld => ?_)
          clear hKc Kc
          try simp only [Act.put, List.setIfInBounds_toArray, List.set_cons_zero, List.set_cons_succ]
          refine wpAnyH_ready (rs := [6]) (by kernel_rfl) (by simp) (AllReadyH.cons (o := ⟨none, _, _, _, _, _⟩) rfl (fun Kc hKc => ?_) AllReadyH.nil)
          have zhq27 := hHeld.size
          rw [if_pos (by rfl)]
          refine step_store_any 67 _ _ rfl g5 0 67 _ (nmL a) _ rfl rfl rfl F5.out info_n5 (by show 0 + 5 ≤ 5; omega) (n5_one a) ?_; intro wq27 hbq27 hoq27; have Zq27 := Go.Lib.hid hbq27; clear hbq27
          have zq27 := hoq27.size
          have F6 := Go.Lib.hid (F6.out.only hoq27 (by omega))
          have F5 : Hid (Bxo wq27 g5 67 (nmL a)) := Go.Lib.hid Zq27.out
          refine hKc.out _ _ (hHeld.trans (hoq27.below (by omega))) (fun hHeld => ?_)
          clear hKc Kc
          try simp only [Act.put, List.setIfInBounds_toArray, List.set_cons_zero, List.set_cons_succ]
          refine wpAnyH_ready (rs := [7]) (by kernel_rfl) (by simp) (AllReadyH.cons (o := ⟨none, _, _, _, _, _⟩) rfl (fun Kc hKc => ?_) AllReadyH.nil)
          have zhq28 := hHeld.size
          rw [if_pos (by rfl)]
          refine step_store_any 67 _ _ rfl g6 0 67 _ (nmL b) _ rfl rfl rfl F6.out info_n5 (by show 0 + 5 ≤ 5; omega) (n5_one b) ?_; intro wq28 hbq28 hoq28; have Zq28 := Go.Lib.hid hbq28; clear hbq28
          have zq28 := hoq28.size
          have F6 : Hid (Bxo wq28 g6 67 (nmL b)) := Go.Lib.hid Zq28.out
          have F5 := Go.Lib.hid (F5.out.only hoq28 (by omega))
          refine hKc.out _ _ (hHeld.trans (hoq28.below (by omega))) (fun hHeld => ?_)
          clear hKc Kc
          try simp only [Act.put, List.setIfInBounds_toArray, List.set_cons_zero, List.set_cons_succ]
          refine wpAnyH_done (by kernel_rfl) ?_ _
          go_wp2_with fail
          go_meet
          exact ⟨g5, g6, rfl, rfl, by omega, F5.out, F6.out, y0.trans (hHeld.mono y0.size)⟩
    ·
      have zhq29 := hHeld.size
      rw [if_pos (by rfl)]
      refine step_alloc 67 rfl [.int .i64 0, .int .i64 0, .int .i64 0, .int .i64 0, .int .i64 0] info_zn5 ?_; intro g5 wq29 hgq29 hbq29 yq29 hzq29; have F5 := Go.Lib.hid hbq29; clear hbq29; obtain ⟨hgq29a, hgq29b⟩ := hgq29; obtain ⟨hzq29a, hzq29b⟩ := hzq29
      have zq29 := yq29.size
      refine hKc.out _ _ (hHeld.trans (yq29.mono hHeld.size)) (fun hHeld => ?_)
      clear hKc Kc
      try simp only [Act.put, List.setIfInBounds_toArray, List.set_cons_zero, List.set_cons_succ]
      refine wpAnyH_ready (rs := [1, 5]) (by kernel_rfl) (by simp) (AllReadyH.cons (o := ⟨some 9, _, _, _, _, _⟩) rfl (fun Kc hKc => ?_) (AllReadyH.cons (o := ⟨some 6, _, _, _, _, _⟩) rfl (fun Kc hKc => ?_) AllReadyH.nil))
      ·
        have zhq30 := hHeld.size
        go_simp
        go_at_call 29; refine (rnums a ha wq29).mono ?_; rintro e wq30 ⟨rfl, yq30⟩; dsimp only
        have zq30 := yq30.size
        have F5 := Go.Lib.hid (F5.out.keep yq30 F5.out.lt)
        refine hKc.out _ _ (hHeld.trans (yq30.mono hHeld.size)) (fun hHeld => ?_)
        clear hKc Kc
        try simp only [Act.put, List.setIfInBounds_toArray, List.set_cons_zero, List.set_cons_succ]
        refine wpAnyH_ready (rs := [3, 5]) (by kernel_rfl) (by simp) (AllReadyH.cons (o := ⟨some 11, _, _, _, _, _⟩) rfl (fun Kc hKc => ?_) (AllReadyH.cons (o := ⟨some 6, _, _, _, _, _⟩) rfl (fun Kc hKc => ?_) AllReadyH.nil))
        ·
          have zhq31 := hHeld.size
          go_simp
          go_at_call 29; refine (rnums b hb wq30).mono ?_; rintro e wq31 ⟨rfl, yq31⟩; dsimp only
          have zq31 := yq31.size
          have F5 := Go.Lib.hid (F5.out.keep yq31 F5.out.lt)
          refine hKc.out _ _ (hHeld.trans (yq31.mono hHeld.size)) (fun hHeld => ?_)
          clear hKc Kc
          try simp only [Act.put, List.setIfInBounds_toArray, List.set_cons_zero, List.set_cons_succ]
          refine wpAnyH_ready (rs := [5]) (by kernel_rfl) (by simp) (AllReadyH.cons (o := ⟨some 6, _, _, _, _, _⟩) rfl (fun Kc hKc => ?_) AllReadyH.nil)
          have zhq32 := hHeld.size
          rw [if_pos (by rfl)]
          refine step_alloc 67 rfl [.int .i64 0, .int .i64 0, .int .i64 0, .int .i64 0, .int .i64 0] info_zn5 ?_; intro g6 wq32 hgq32 hbq32 yq32 hzq32; have F6 := Go.Lib.hid hbq32; clear hbq32; obtain ⟨hgq32a, hgq32b⟩ := hgq32; obtain ⟨hzq32a, hzq32b⟩ := hzq32
          have zq32 := yq32.size
          have F5 := Go.Lib.hid (F5.out.keep yq32 F5.out.lt)
          refine hKc.out _ _ (hHeld.trans (yq32.mono hHeld.size)) (fun hHeld => ?_)
          clear hKc Kc
          try simp only [Act.put, List.setIfInBounds_toArray, List.set_cons_zero, List.set_cons_succ]
          refine wpAnyH_ready (rs := [6]) (by kernel_rfl) (by simp) (AllReadyH.cons (o := ⟨none, _, _, _, _, _⟩) rfl (fun Kc hKc => ?_) AllReadyH.nil)
          have zhq33 := hHeld.size
          rw [if_pos (by rfl)]
          refine step_store_any 67 _ _ rfl g5 0 67 _ (nmL a) _ rfl rfl rfl F5.out info_n5 (by show 0 + 5 ≤ 5; omega) (n5_one a) ?_; intro wq33 hbq33 hoq33; have Zq33 := Go.Lib.hid hbq33; clear hbq33
          have zq33 := hoq33.size
          have F5 : Hid (Bxo wq33 g5 67 (nmL a)) := Go.Lib.hid Zq33.out
          have F6 := Go.Lib.hid (F6.out.only hoq33 (by omega))
          refine hKc.out _ _ (hHeld.trans (hoq33.below (by omega))) (fun hHeld => ?_)
          clear hKc Kc
          try simp only [Act.put, List.setIfInBounds_toArray, List.set_cons_zero, List.set_cons_succ]
          refine wpAnyH_ready (rs := [7]) (by kernel_rfl) (by simp) (AllReadyH.cons (o := ⟨none, _, _, _, _, _⟩) rfl (fun Kc hKc => ?_) AllReadyH.nil)
          have zhq34 := hHeld.size
          rw [if_pos (by rfl)]
          refine step_store_any 67 _ _ rfl g6 0 67 _ (nmL b) _ rfl rfl rfl F6.out info_n5 (by show 0 + 5 ≤ 5; omega) (n5_one b) ?_; intro wq34 hbq34 hoq34; have Zq34 := Go.Lib.hid hbq34; clear hbq34
          have zq34 := hoq34.size
          have F5 := Go.Lib.hid (F5.out.only hoq34 (by omega))
          have F6 : Hid (Bxo wq34 g6 67 (nmL b)) := Go.Lib.hid Zq34.out
          refine hKc.out _ _ (hHeld.trans (hoq34.below (by omega))) (fun hHeld => ?_)
          clear hKc Kc
          try simp only [Act.put, List.setIfInBounds_toArray, List.set_cons_zero, List.set_cons_succ]
          refine wpAnyH_done (by kernel_rfl) ?_ _
          go_wp2_with fail
          go_meet
          exact ⟨g5, g6, rfl, rfl, by omega, F5.out, F6.out, y0.trans (hHeld.mono y0.size)⟩
        ·
          have zhq35 := hHeld.size
          rw [if_pos (by rfl)]
          refine step_alloc 67 rfl [.int .i64 0, .int .i64 0, .int .i64 0, .int .i64 0, .int .i64 0] info_zn5 ?_; intro g6 wq35 hgq35 hbq35 yq35 hzq35; have F6 := Go.Lib.hid hbq35; clear hbq35; obtain ⟨hgq35a, hgq35b⟩ := hgq35; obtain ⟨hzq35a, hzq35b⟩ := hzq35
          have zq35 := yq35.size
          have F5 := Go.Lib.hid (F5.out.keep yq35 F5.out.lt)
          refine hKc.out _ _ (hHeld.trans (yq35.mono hHeld.size)) (fun hHeld => ?_)
          clear hKc Kc
          try simp only [Act.put, List.setIfInBounds_toArray, List.set_cons_zero, List.set_cons_succ]
          refine wpAnyH_ready (rs := [3]) (by kernel_rfl) (by simp) (AllReadyH.cons (o := ⟨some 11, _, _, _, _, _⟩) rfl (fun Kc hKc => ?_) AllReadyH.nil)
          have zhq36 := hHeld.size
          go_simp
          go_at_call 29; refine (rnums b hb wq35).mono ?_; rintro e wq36 ⟨rfl, yq36⟩; dsimp only
          have zq36 := yq36.size
          have F5 := Go.Lib.hid (F5.out.keep yq36 F5.out.lt)
          have F6 := Go.Lib.hid (F6.out.keep yq36 F6.out.lt)
          refine hKc.out _ _ (hHeld.trans (yq36.mono hHeld.size)) (fun hHeld => ?_)
          clear hKc Kc
          try simp only [Act.put, List.setIfInBounds_toArray, List.set_cons_zero, List.set_cons_succ]
          refine wpAnyH_ready (rs := [6]) (by kernel_rfl) (by simp) (AllReadyH.cons (o := ⟨none, _, _, _, _, _⟩) rfl (fun Kc hKc => ?_) AllReadyH.nil)
          have zhq37 := hHeld.size
          rw [if_pos (by rfl)]
          refine step_store_any 67 _ _ rfl g5 0 67 _ (nmL a) _ rfl rfl rfl F5.out info_n5 (by show 0 + 5 ≤ 5; omega) (n5_one a) ?_; intro wq37 hbq37 hoq37; have Zq37 := Go.Lib.hid hbq37; clear hbq37
          have zq37 := hoq37.size
          have F5 : Hid (Bxo wq37 g5 67 (nmL a)) := Go.Lib.hid Zq37.out
          have F6 := Go.Lib.hid (F6.out.only hoq37 (by omega))
          refine hKc.out _ _ (hHeld.trans (hoq37.below (by omega))) (fun hHeld => ?_)
          clear hKc Kc
          try simp only [Act.put, List.setIfInBounds_toArray, List.set_cons_zero, List.set_cons_succ]
          refine wpAnyH_ready (rs := [7]) (by kernel_rfl) (by simp) (AllReadyH.cons (o := ⟨none, _, _, _, _, _⟩) rfl (fun Kc hKc => ?_) AllReadyH.nil)
          have zhq38 := hHeld.size
          rw [if_pos (by rfl)]
          refine step_store_any 67 _ _ rfl g6 0 67 _ (nmL b) _ rfl rfl rfl F6.out info_n5 (by show 0 + 5 ≤ 5; omega) (n5_one b) ?_; intro wq38 hbq38 hoq38; have Zq38 := Go.Lib.hid hbq38; clear hbq38
          have zq38 := hoq38.size
          have F5 := Go.Lib.hid (F5.out.only hoq38 (by omega))
          have F6 : Hid (Bxo wq38 g6 67 (nmL b)) := Go.Lib.hid Zq38.out
          refine hKc.out _ _ (hHeld.trans (hoq38.below (by omega))) (fun hHeld => ?_)
          clear hKc Kc
          try simp only [Act.put, List.setIfInBounds_toArray, List.set_cons_zero, List.set_cons_succ]
          refine wpAnyH_done (by kernel_rfl) ?_ _
          go_wp2_with fail
          go_meet
          exact ⟨g5, g6, rfl, rfl, by omega, F5.out, F6.out, y0.trans (hHeld.mono y0.size)⟩
      ·
        have zhq39 := hHeld.size
        rw [if_pos (by rfl)]
        refine step_alloc 67 rfl [.int .i64 0, .int .i64 0, .int .i64 0, .int .i64 0, .int .i64 0] info_zn5 ?_; intro g6 wq39 hgq39 hbq39 yq39 hzq39; have F6 := Go.Lib.hid hbq39; clear hbq39; obtain ⟨hgq39a, hgq39b⟩ := hgq39; obtain ⟨hzq39a, hzq39b⟩ := hzq39
        have zq39 := yq39.size
        have F5 := Go.Lib.hid (F5.out.keep yq39 F5.out.lt)
        refine hKc.out _ _ (hHeld.trans (yq39.mono hHeld.size)) (fun hHeld => ?_)
        clear hKc Kc
        try simp only [Act.put, List.setIfInBounds_toArray, List.set_cons_zero, List.set_cons_succ]
        refine wpAnyH_ready (rs := [1]) (by kernel_rfl) (by simp) (AllReadyH.cons (o := ⟨some 9, _, _, _, _, _⟩) rfl (fun Kc hKc => ?_) AllReadyH.nil)
        have zhq40 := hHeld.size
        go_simp
        go_at_call 29; refine (rnums a ha wq39).mono ?_; rintro e wq40 ⟨rfl, yq40⟩; dsimp only
        have zq40 := yq40.size
        have F5 := Go.Lib.hid (F5.out.keep yq40 F5.out.lt)
        have F6 := Go.Lib.hid (F6.out.keep yq40 F6.out.lt)
        refine hKc.out _ _ (hHeld.trans (yq40.mono hHeld.size)) (fun hHeld => ?_)
        clear hKc Kc
        try simp only [Act.put, List.setIfInBounds_toArray, List.set_cons_zero, List.set_cons_succ]
        refine wpAnyH_ready (rs := [3]) (by kernel_rfl) (by simp) (AllReadyH.cons (o := ⟨some 11, _, _, _, _, _⟩) rfl (fun Kc hKc => ?_) AllReadyH.nil)
        have zhq41 := hHeld.size
        go_simp
        go_at_call 29; refine (rnums b hb wq40).mono ?_; rintro e wq41 ⟨rfl, yq41⟩; dsimp only
        have zq41 := yq41.size
        have F5 := Go.Lib.hid (F5.out.keep yq41 F5.out.lt)
        have F6 := Go.Lib.hid (F6.out.keep yq41 F6.out.lt)
        refine hKc.out _ _ (hHeld.trans (yq41.mono hHeld.size)) (fun hHeld => ?_)
        clear hKc Kc
        try simp only [Act.put, List.setIfInBounds_toArray, List.set_cons_zero, List.set_cons_succ]
        refine wpAnyH_ready (rs := [6]) (by kernel_rfl) (by simp) (AllReadyH.cons (o := ⟨none, _, _, _, _, _⟩) rfl (fun Kc hKc => ?_) AllReadyH.nil)
        have zhq42 := hHeld.size
        rw [if_pos (by rfl)]
        refine step_store_any 67 _ _ rfl g5 0 67 _ (nmL a) _ rfl rfl rfl F5.out info_n5 (by show 0 + 5 ≤ 5; omega) (n5_one a) ?_; intro wq42 hbq42 hoq42; have Zq42 := Go.Lib.hid hbq42; clear hbq42
        have zq42 := hoq42.size
        have F5 : Hid (Bxo wq42 g5 67 (nmL a)) := Go.Lib.hid Zq42.out
        have F6 := Go.Lib.hid (F6.out.only hoq42 (by omega))
        refine hKc.out _ _ (hHeld.trans (hoq42.below (by omega))) (fun hHeld => ?_)
        clear hKc Kc
        try simp only [Act.put, List.setIfInBounds_toArray, List.set_cons_zero, List.set_cons_succ]
        refine wpAnyH_ready (rs := [7]) (by kernel_rfl) (by simp) (AllReadyH.cons (o := ⟨none, _, _, _, _, _⟩) rfl (fun Kc hKc => ?_) AllReadyH.nil)
        have zhq43 := hHeld.size
        rw [if_pos (by rfl)]
        refine step_store_any 67 _ _ rfl g6 0 67 _ (nmL b) _ rfl rfl rfl F6.out info_n5 (by show 0 + 5 ≤ 5; omega) (n5_one b) ?_; intro wq43 hbq43 hoq43; have Zq43 := Go.Lib.hid hbq43; clear hbq43
        have zq43 := hoq43.size
        have F5 := Go.Lib.hid (F5.out.only hoq43 (by omega))
        have F6 : Hid (Bxo wq43 g6 67 (nmL b)) := Go.Lib.hid Zq43.out
        refine hKc.out _ _ (hHeld.trans (hoq43.below (by omega))) (fun hHeld => ?_)
        clear hKc Kc
        try simp only [Act.put, List.setIfInBounds_toArray, List.set_cons_zero, List.set_cons_succ]
        refine wpAnyH_done (by kernel_rfl) ?_ _
        go_wp2_with fail
        go_meet
        exact ⟨g5, g6, rfl, rfl, by omega, F5.out, F6.out, y0.trans (hHeld.mono y0.size)⟩
    ·
      have zhq44 := hHeld.size
      rw [if_pos (by rfl)]
      refine step_alloc 67 rfl [.int .i64 0, .int .i64 0, .int .i64 0, .int .i64 0, .int .i64 0] info_zn5 ?_; intro g6 wq44 hgq44 hbq44 yq44 hzq44; have F6 := Go.Lib.hid hbq44; clear hbq44; obtain ⟨hgq44a, hgq44b⟩ := hgq44; obtain ⟨hzq44a, hzq44b⟩ := hzq44
      have zq44 := yq44.size
      refine hKc.out _ _ (hHeld.trans (yq44.mono hHeld.size)) (fun hHeld => ?_)
      clear hKc Kc
      try simp only [Act.put, List.setIfInBounds_toArray, List.set_cons_zero, List.set_cons_succ]
      refine wpAnyH_ready (rs := [1, 4]) (by kernel_rfl) (by simp) (AllReadyH.cons (o := ⟨some 9, _, _, _, _, _⟩) rfl (fun Kc hKc => ?_) (AllReadyH.cons (o := ⟨some 5, _, _, _, _, _⟩) rfl (fun Kc hKc => ?_) AllReadyH.nil))
      ·
        have zhq45 := hHeld.size
        go_simp
        go_at_call 29; refine (rnums a ha wq44).mono ?_; rintro e wq45 ⟨rfl, yq45⟩; dsimp only
        have zq45 := yq45.size
        have F6 := Go.Lib.hid (F6.out.keep yq45 F6.out.lt)
        refine hKc.out _ _ (hHeld.trans (yq45.mono hHeld.size)) (fun hHeld => ?_)
        clear hKc Kc
        try simp only [Act.put, List.setIfInBounds_toArray, List.set_cons_zero, List.set_cons_succ]
        refine wpAnyH_ready (rs := [3, 4]) (by kernel_rfl) (by simp) (AllReadyH.cons (o := ⟨some 11, _, _, _, _, _⟩) rfl (fun Kc hKc => ?_) (AllReadyH.cons (o := ⟨some 5, _, _, _, _, _⟩) rfl (fun Kc hKc => ?_) AllReadyH.nil))
        ·
          have zhq46 := hHeld.size
          go_simp
          go_at_call 29; refine (rnums b hb wq45).mono ?_; rintro e wq46 ⟨rfl, yq46⟩; dsimp only
          have zq46 := yq46.size
          have F6 := Go.Lib.hid (F6.out.keep yq46 F6.out.lt)
          refine hKc.out _ _ (hHeld.trans (yq46.mono hHeld.size)) (fun hHeld => ?_)
          clear hKc Kc
          try simp only [Act.put, List.setIfInBounds_toArray, List.set_cons_zero, List.set_cons_succ]
          refine wpAnyH_ready (rs := [4]) (by kernel_rfl) (by simp) (AllReadyH.cons (o := ⟨some 5, _, _, _, _, _⟩) rfl (fun Kc hKc => ?_) AllReadyH.nil)
          have zhq47 := hHeld.size
          rw [if_pos (by rfl)]
          refine step_alloc 67 rfl [.int .i64 0, .int .i64 0, .int .i64 0, .int .i64 0, .int .i64 0] info_zn5 ?_; intro g5 wq47 hgq47 hbq47 yq47 hzq47; have F5 := Go.Lib.hid hbq47; clear hbq47; obtain ⟨hgq47a, hgq47b⟩ := hgq47; obtain ⟨hzq47a, hzq47b⟩ := hzq47
          have zq47 := yq47.size
          have F6 := Go.Lib.hid (F6.out.keep yq47 F6.out.lt)
          refine hKc.out _ _ (hHeld.trans (yq47.mono hHeld.size)) (fun hHeld => ?_)
          clear hKc Kc
          try simp only [Act.put, List.setIfInBounds_toArray, List.set_cons_zero, List.set_cons_succ]
          refine wpAnyH_ready (rs := [6]) (by kernel_rfl) (by simp) (AllReadyH.cons (o := ⟨none, _, _, _, _, _⟩) rfl (fun Kc hKc => ?_) AllReadyH.nil)
          have zhq48 := hHeld.size
          rw [if_pos (by rfl)]
          refine step_store_any 67 _ _ rfl g5 0 67 _ (nmL a) _ rfl rfl rfl F5.out info_n5 (by show 0 + 5 ≤ 5; omega) (n5_one a) ?_; intro wq48 hbq48 hoq48; have Zq48 := Go.Lib.hid hbq48; clear hbq48
          have zq48 := hoq48.size
          have F6 := Go.Lib.hid (F6.out.only hoq48 (by omega))
          have F5 : Hid (Bxo wq48 g5 67 (nmL a)) := Go.Lib.hid Zq48.out
          refine hKc.out _ _ (hHeld.trans (hoq48.below (by omega))) (fun hHeld => ?_)
          clear hKc Kc
          try simp only [Act.put, List.setIfInBounds_toArray, List.set_cons_zero, List.set_cons_succ]
          refine wpAnyH_ready (rs := [7]) (by kernel_rfl) (by simp) (AllReadyH.cons (o := ⟨none, _, _, _, _, _⟩) rfl (fun Kc hKc => ?_) AllReadyH.nil)
          have zhq49 := hHeld.size
          rw [if_pos (by rfl)]
          refine step_store_any 67 _ _ rfl g6 0 67 _ (nmL b) _ rfl rfl rfl F6.out info_n5 (by show 0 + 5 ≤ 5; omega) (n5_one b) ?_; intro wq49 hbq49 hoq49; have Zq49 := Go.Lib.hid hbq49; clear hbq49
          have zq49 := hoq49.size
          have F6 : Hid (Bxo wq49 g6 67 (nmL b)) := Go.Lib.hid Zq49.out
          have F5 := Go.Lib.hid (F5.out.only hoq49 (by omega))
          refine hKc.out _ _ (hHeld.trans (hoq49.below (by omega))) (fun hHeld => ?_)
          clear hKc Kc
          try simp only [Act.put, List.setIfInBounds_toArray, List.set_cons_zero, List.set_cons_succ]
          refine wpAnyH_done (by kernel_rfl) ?_ _
          go_wp2_with fail
          go_meet
          exact ⟨g5, g6, rfl, rfl, by omega, F5.out, F6.out, y0.trans (hHeld.mono y0.size)⟩
        ·
          have zhq50 := hHeld.size
          rw [if_pos (by rfl)]
          refine step_alloc 67 rfl [.int .i64 0, .int .i64 0, .int .i64 0, .int .i64 0, .int .i64 0] info_zn5 ?_; intro g5 wq50 hgq50 hbq50 yq50 hzq50; have F5 := Go.Lib.hid hbq50; clear hbq50; obtain ⟨hgq50a, hgq50b⟩ := hgq50; obtain ⟨hzq50a, hzq50b⟩ := hzq50
          have zq50 := yq50.size
          have F6 := Go.Lib.hid (F6.out.keep yq50 F6.out.lt)
          refine hKc.out _ _ (hHeld.trans (yq50.mono hHeld.size)) (fun hHeld => ?_)
          clear hKc Kc
          try simp only [Act.put, List.setIfInBounds_toArray, List.set_cons_zero, List.set_cons_succ]
          refine wpAnyH_ready (rs := [3]) (by kernel_rfl) (by simp) (AllReadyH.cons (o := ⟨some 11, _, _, _, _, _⟩) rfl (fun Kc hKc => ?_) AllReadyH.nil)
          have zhq51 := hHeld.size
          go_simp
          go_at_call 29; refine (rnums b hb wq50).mono ?_; rintro e wq51 ⟨rfl, yq51⟩; dsimp only
          have zq51 := yq51.size
          have F6 := Go.Lib.hid (F6.out.keep yq51 F6.out.lt)
          have F5 := Go.Lib.hid (F5.out.keep yq51 F5.out.lt)
          refine hKc.out _ _ (hHeld.trans (yq51.mono hHeld.size)) (fun hHeld => ?_)
          clear hKc Kc
          try simp only [Act.put, List.setIfInBounds_toArray, List.set_cons_zero, List.set_cons_succ]
          refine wpAnyH_ready (rs := [6]) (by kernel_rfl) (by simp) (AllReadyH.cons (o := ⟨none, _, _, _, _, _⟩) rfl (fun Kc hKc => ?_) AllReadyH.nil)
          have zhq52 := hHeld.size
          rw [if_pos (by rfl)]
          refine step_store_any 67 _ _ rfl g5 0 67 _ (nmL a) _ rfl rfl rfl F5.out info_n5 (by show 0 + 5 ≤ 5; omega) (n5_one a) ?_; intro wq52 hbq52 hoq52; have Zq52 := Go.Lib.hid hbq52; clear hbq52
          have zq52 := hoq52.size
          have F6 := Go.Lib.hid (F6.out.only hoq52 (by omega))
          have F5 : Hid (Bxo wq52 g5 67 (nmL a)) := Go.Lib.hid Zq52.out
          refine hKc.out _ _ (hHeld.trans (hoq52.below (by omega))) (fun hHeld => ?_)
          clear hKc Kc
          try simp only [Act.put, List.setIfInBounds_toArray, List.set_cons_zero, List.set_cons_succ]
          refine wpAnyH_ready (rs := [7]) (by kernel_rfl) (by simp) (AllReadyH.cons (o := ⟨none, _, _, _, _, _⟩) rfl (fun Kc hKc => ?_) AllReadyH.nil)
          have zhq53 := hHeld.size
          rw [if_pos (by rfl)]
          refine step_store_any 67 _ _ rfl g6 0 67 _ (nmL b) _ rfl rfl rfl F6.out info_n5 (by show 0 + 5 ≤ 5; omega) (n5_one b) ?_; intro wq53 hbq53 hoq53; have Zq53 := Go.Lib.hid hbq53; clear hbq53
          have zq53 := hoq53.size
          have F6 : Hid (Bxo wq53 g6 67 (nmL b)) := Go.Lib.hid Zq53.out
          have F5 := Go.Lib.hid (F5.out.only hoq53 (by omega))
          refine hKc.out _ _ (hHeld.trans (hoq53.below (by omega))) (fun hHeld => ?_)
          clear hKc Kc
          try simp only [Act.put, List.setIfInBounds_toArray, List.set_cons_zero, List.set_cons_succ]
          refine wpAnyH_done (by kernel_rfl) ?_ _
          go_wp2_with fail
          go_meet
          exact ⟨g5, g6, rfl, rfl, by omega, F5.out, F6.out, y0.trans (hHeld.mono y0.size)⟩
      ·
        have zhq54 := hHeld.size
        rw [if_pos (by rfl)]
        refine step_alloc 67 rfl [.int .i64 0, .int .i64 0, .int .i64 0, .int .i64 0, .int .i64 0] info_zn5 ?_; intro g5 wq54 hgq54 hbq54 yq54 hzq54; have F5 := Go.Lib.hid hbq54; clear hbq54; obtain ⟨hgq54a, hgq54b⟩ := hgq54; obtain ⟨hzq54a, hzq54b⟩ := hzq54
        have zq54 := yq54.size
        have F6 := Go.Lib.hid (F6.out.keep yq54 F6.out.lt)
        refine hKc.out _ _ (hHeld.trans (yq54.mono hHeld.size)) (fun hHeld => ?_)
        clear hKc Kc
        try simp only [Act.put, List.setIfInBounds_toArray, List.set_cons_zero, List.set_cons_succ]
        refine wpAnyH_ready (rs := [1]) (by kernel_rfl) (by simp) (AllReadyH.cons (o := ⟨some 9, _, _, _, _, _⟩) rfl (fun Kc hKc => ?_) AllReadyH.nil)
        have zhq55 := hHeld.size
        go_simp
        go_at_call 29; refine (rnums a ha wq54).mono ?_; rintro e wq55 ⟨rfl, yq55⟩; dsimp only
        have zq55 := yq55.size
        have F6 := Go.Lib.hid (F6.out.keep yq55 F6.out.lt)
        have F5 := Go.Lib.hid (F5.out.keep yq55 F5.out.lt)
        refine hKc.out _ _ (hHeld.trans (yq55.mono hHeld.size)) (fun hHeld => ?_)
        clear hKc Kc
        try simp only [Act.put, List.setIfInBounds_toArray, List.set_cons_zero, List.set_cons_succ]
        refine wpAnyH_ready (rs := [3]) (by kernel_rfl) (by simp) (AllReadyH.cons (o := ⟨some 11, _, _, _, _, _⟩) rfl (fun Kc hKc => ?_) AllReadyH.nil)
        have zhq56 := hHeld.size
        go_simp
        go_at_call 29; refine (rnums b hb wq55).mono ?_; rintro e wq56 ⟨rfl, yq56⟩; dsimp only
        have zq56 := yq56.size
        have F6 := Go.Lib.hid (F6.out.keep yq56 F6.out.lt)
        have F5 := Go.Lib.hid (F5.out.keep yq56 F5.out.lt)
        refine hKc.out _ _ (hHeld.trans (yq56.mono hHeld.size)) (fun hHeld => ?_)
        clear hKc Kc
        try simp only [Act.put, List.setIfInBounds_toArray, List.set_cons_zero, List.set_cons_succ]
        refine wpAnyH_ready (rs := [6]) (by kernel_rfl) (by simp) (AllReadyH.cons (o := ⟨none, _, _, _, _, _⟩) rfl (fun Kc hKc => ?_) AllReadyH.nil)
        have zhq57 := hHeld.size
        rw [if_pos (by rfl)]
        refine step_store_any 67 _ _ rfl g5 0 67 _ (nmL a) _ rfl rfl rfl F5.out info_n5 (by show 0 + 5 ≤ 5; omega) (n5_one a) ?_; intro wq57 hbq57 hoq57; have Zq57 := Go.Lib.hid hbq57; clear hbq57
        have zq57 := hoq57.size
        have F6 := Go.Lib.hid (F6.out.only hoq57 (by omega))
        have F5 : Hid (Bxo wq57 g5 67 (nmL a)) := Go.Lib.hid Zq57.out
        refine hKc.out _ _ (hHeld.trans (hoq57.below (by omega))) (fun hHeld => ?_)
        clear hKc Kc
        try simp only [Act.put, List.setIfInBounds_toArray, List.set_cons_zero, List.set_cons_succ]
        refine wpAnyH_ready (rs := [7]) (by kernel_rfl) (by simp) (AllReadyH.cons (o := ⟨none, _, _, _, _, _⟩) rfl (fun Kc hKc => ?_) AllReadyH.nil)
        have zhq58 := hHeld.size
        rw [if_pos (by rfl)]
        refine step_store_any 67 _ _ rfl g6 0 67 _ (nmL b) _ rfl rfl rfl F6.out info_n5 (by show 0 + 5 ≤ 5; omega) (n5_one b) ?_; intro wq58 hbq58 hoq58; have Zq58 := Go.Lib.hid hbq58; clear hbq58
        have zq58 := hoq58.size
        have F6 : Hid (Bxo wq58 g6 67 (nmL b)) := Go.Lib.hid Zq58.out
        have F5 := Go.Lib.hid (F5.out.only hoq58 (by omega))
        refine hKc.out _ _ (hHeld.trans (hoq58.below (by omega))) (fun hHeld => ?_)
        clear hKc Kc
        try simp only [Act.put, List.setIfInBounds_toArray, List.set_cons_zero, List.set_cons_succ]
        refine wpAnyH_done (by kernel_rfl) ?_ _
        go_wp2_with fail
        go_meet
        exact ⟨g5, g6, rfl, rfl, by omega, F5.out, F6.out, y0.trans (hHeld.mono y0.size)⟩
  case rest =>
    obtain ⟨g5, g6, rfl, rfl, hne, h5, h6, y3⟩ := hcut
    rename World => W3
    have F5 := Go.Lib.hid h5
    have F6 := Go.Lib.hid h6
    clear h5 h6 HA HB y0
    go_wp2_with fail
    go_loopw [7] (fun i wr => ∃ k : Nat, k ≤ 5 ∧ i = .int .i64 k ∧ Hid (lessL ((numsT a).drop k) ((numsT b).drop k) = q) ∧ Below W3.heap.size W3 wr) (fun i _ => 5 - (intOf i).toNat)
    case atStart => exact ⟨0, by omega, rfl, HQ, Below.refl _ _⟩
    case round =>
      rename World => wo
      obtain ⟨k, hk, rfl, HL, x1⟩ := hrel
      clear HQ
      have y4 := y3.trans (x1.mono y3.size)
      by_cases hlt : k < 5
      · have ca := (F5.out.keep x1 F5.out.lt).cell k (nm_get a k hlt)
        have cb := (F6.out.keep x1 F6.out.lt).cell k (nm_get b k hlt)
        have hst := lessL_drop (numsT a) (numsT b) k hlt hlt
        have i1 : (0 : Int) ≤ (k : Int) := by omega
        have i2 : (k : Int) < 5 := by omega
        generalize (numsT a)[k] = xa at *
        generalize (numsT b)[k] = xb at *
        have HS := Go.Lib.hid (hst.symm.trans HL.out)
        clear hst HL
        by_cases he : xa = xb
        · subst he
          go_wp2
          go_quiet (fail)
          go_wp2
          go_round
          case rel => exact ⟨k + 1, by omega, by go_num, Go.Lib.hid (by simpa using HS.out), below_dn x1 _⟩
          case measure => simp [intOf]; omega
        · have t2 : (xa != xb) = true := by simpa using he
          have HN : Hid (decide (xa < xb) = q) := Go.Lib.hid (by have := HS.out; rwa [if_neg he] at this)
          clear HS
          by_cases hl : xa < xb
          · go_wp2
            go_quiet (fail)
            go_wp2
            go_quiet (fail)
            go_wp2
            go_ret
            exact ⟨ret_bool (by rw [← HN.out]; simp [hl]), below_dn (below_dn y4 _) _⟩
          · go_wp2
            go_quiet (fail)
            go_wp2
            go_quiet (fail)
            go_wp2
            go_ret
            exact ⟨ret_bool (by have h := HN.out; first | (rw [← h]; done) | (rw [← h]; simp [hl]; done) | (rw [← h]; simp; omega)), below_dn (below_dn y4 _) _⟩
      · obtain rfl : k = 5 := by omega
        go_wp2
        go_ret
        exact ⟨ret_bool HL.out, y4⟩
end Go.Proofs.Ytmgkkgpdnopeaaa

/- Contracts of the document's own answers for package tuple: Hash. -/
namespace Go.Proofs.Ytmgkkgpdnopeaaa
open Go.ChangeShapes Go.WideShapes Go.ChangeAt Go.RowKit
set_option linter.unusedVariables false
set_option linter.unusedSimpArgs false

theorem sz_get (k : Nat) (h : k < sizesT.length) : ([.int .i64 1, .int .i64 4, .int .i64 2, .int .i64 4, .int .i64 2] : List Value)[k]? = some (.int .i64 (sizesT[k] : Nat)) := by
  match k, h with
  | 0, _ => rfl
  | 1, _ => rfl
  | 2, _ => rfl
  | 3, _ => rfl
  | 4, _ => rfl
  | m + 5, h => exact absurd h (by simp)
set_option maxRecDepth 100000 in
set_option maxHeartbeats 8000000 in
theorem rhash (t : Tp) (ht : RngTp t) (seed : Int) (w : World) (q : Int) (hq : hashT t seed = q) : Calls Try.prog 16 #[tpV t, .int .u32 seed] w fun e w' => e = .returned (.int .u32 q) ∧ Below w.heap.size w w' := by
  have HQ : Hid (hashL (bits .xor .u32 2166136261 seed) (bytesN ((numsT t).drop 0) (sizesT.drop 0)) = q) := Go.Lib.hid (by rw [List.drop_zero, List.drop_zero, bytes_nums t ht]; exact hq)
  have HR := Go.Lib.hid (nums_rng t ht)
  have y0 : Below w.heap.size w (w.alloc (oTp t)) := (Below.refl _ _).alloc (Nat.le_refl _) _
  have h1 := Bxo.made w 27 (tpL t)
  have hz : (w.alloc (oTp t)).heap.size = w.heap.size + 1 := by simp
  clear hq
  go_enter Try.func16, Try.ntmps16
  go_upto_region 1 with fail
  generalize w.alloc (oTp t) = W at *
  have HA := Go.Lib.hid h1
  clear h1
  go_upto_region 3 with (first
    | (refine wpList_load_box rfl 27 _ rfl w.heap.size rfl (tpL t) _ HA.out Try.underlying27 rfl info_tp ?_)
    | (go_at_call 29; refine (rnums t ht W).mono ?_; rintro e w1 ⟨rfl, y1⟩; dsimp only)
    | (refine wpList_store_any rfl 67 _ _ rfl w1.heap.size 0 67 _ (nmL t) _ rfl rfl rfl (Bxo.made w1 67 [.int .i64 0, .int .i64 0, .int .i64 0, .int .i64 0, .int .i64 0]) info_n5 (by show 0 + 5 ≤ 5; omega) (n5_one t) ?_; intro w2 hb2 ho2; have HB2 := Go.Lib.hid hb2; clear hb2))
  have y2 : Below w.heap.size w w2 := (below_alloc (y0.trans (y1.mono y0.size)) (Nat.le_trans y0.size y1.size) _).trans (ho2.below (Nat.le_trans y0.size y1.size))
  have hg1 : w1.heap.size < w2.heap.size := by rw [ho2.size]; simp
  have hgw : w.heap.size ≤ w2.heap.size := y2.size
  generalize w1.heap.size = g1 at *
  clear ho2 y1 HA y0
  go_upto_region 4 with (refine wpList_store_any rfl 67 _ _ rfl w2.heap.size 0 67 _ [.int .i64 1, .int .i64 4, .int .i64 2, .int .i64 4, .int .i64 2] _ rfl rfl rfl (Bxo.made w2 67 [.int .i64 0, .int .i64 0, .int .i64 0, .int .i64 0, .int .i64 0]) info_n5 (by show 0 + 5 ≤ 5; omega) (by simp [Value.oneCell']) ?_; intro w3 hb3 ho3; have HB3 := Go.Lib.hid hb3; clear hb3)
  have y3 : Below w.heap.size w w3 := (below_alloc y2 y2.size _).trans (ho3.below hgw)
  have HN3 : Hid (Bxo w3 g1 67 (nmL t)) := Go.Lib.hid ((Bxo.alloc HB2.out _).only ho3 (by omega))
  generalize w2.heap.size = g2 at *
  clear HB2 ho3 y2 hgw
  try simp only [Act.put, List.setIfInBounds_toArray, List.set_cons_zero, List.set_cons_succ]
  go_wp2_with fail
  go_loop [5, 8] (fun h i => ∃ (k : Nat) (x : Int), k ≤ 5 ∧ i = .int .i64 k ∧ h = .int .u32 x ∧ Hid (hashL x (bytesN ((numsT t).drop k) (sizesT.drop k)) = q)) (fun h i => 5 - (intOf i).toNat)
  case atStart => exact ⟨0, _, by omega, rfl, rfl, HQ⟩
  case round =>
    obtain ⟨k, x, hk, rfl, rfl, HL⟩ := hrel
    clear HQ
    by_cases hlt : k < 5
    · have ca := HN3.out.cell k (nm_get t k hlt)
      have cb := HB3.out.cell k (sz_get k hlt)
      have hst := bytesN_drop (numsT t) sizesT k hlt hlt
      obtain ⟨n0, n1⟩ := HR.out k hlt
      obtain ⟨s0, s1⟩ := sizes_rng k hlt
      have i1 : (0 : Int) ≤ (k : Int) := by omega
      have i2 : (k : Int) < 5 := by omega
      generalize (numsT t)[k] = n at *
      generalize sizesT[k] = s at *
      generalize hrest : bytesN ((numsT t).drop (k + 1)) (sizesT.drop (k + 1)) = rest at *
      have HRS := Go.Lib.hid hrest
      have HX : Hid (hashL x (beB n s ++ rest) = q) := Go.Lib.hid (by rw [← hst]; exact HL.out)
      have CA := Go.Lib.hid ca
      clear hst hrest HL
      have f1 : IntKind.i64.wrap ((s : Int) - 1) = (s : Int) - 1 := IntWalk.i64_in _ (by omega)
      go_wp2_with fail
      go_loop [5, 9] (fun h i => ∃ (r : Nat) (y : Int), r ≤ 4 ∧ i = .int .i64 ((r : Int) - 1) ∧ h = .int .u32 y ∧ Hid (hashL y (beB n r ++ rest) = q)) (fun h i => (intOf i + 1).toNat)
      case atStart => exact ⟨s, x, s1, rfl, rfl, HX⟩
      case round =>
        obtain ⟨r, y, hr, rfl, rfl, HM⟩ := hrel
        clear HX f1 ca cb
        rcases r with _ | r
        · have hneg : ¬ (0 : Int) ≤ (((0 : Nat) : Int) - 1) := by omega
          go_wp2_with fail
          go_round
          case rel => exact ⟨k + 1, y, by omega, by go_num, rfl, Go.Lib.hid (by rw [HRS.out]; exact HM.out)⟩
          case measure => simp [intOf]; omega
        · have hr1 : (((r + 1 : Nat) : Int) - 1) = (r : Int) := by omega
          rw [hr1]
          have hst := beB_succ n r
          have HY : Hid (hashL y ((n / 256 ^ r % 256) :: (beB n r ++ rest)) = q) := Go.Lib.hid (by have := HM.out; rw [hst] at this; exact this)
          have ca := CA.out
          clear hst HM hr1
          go_wp2_with fail
          clear ca
          go_loop [10, 11] (fun c j => ∃ i : Nat, i ≤ r ∧ j = .int .i64 i ∧ c = .int .i64 (n / 256 ^ i)) (fun c j => r - (intOf j).toNat)
          case atStart => exact ⟨0, by omega, rfl, by rw [show (256 : Int) ^ 0 = 1 from rfl, Int.ediv_one]⟩
          case round =>
            obtain ⟨i, hi, rfl, rfl⟩ := hrel
            have hdn := div_pow_succ n i n0
            have hdc := div_pow_rng n i n0 n1
            by_cases hil : i < r
            · have hnx := div_pow_rng n (i + 1) n0 n1
              rw [hdn] at hnx
              have HD := Go.Lib.hid hdn
              have e1 : Int.tdiv (n / 256 ^ i) 256 = n / 256 ^ i / 256 := Int.tdiv_eq_ediv_of_nonneg hdc.1
              clear hdn
              generalize n / 256 ^ i = c at *
              have e2 : IntKind.i64.wrap (Int.tdiv c 256) = c / 256 := by rw [e1]; exact IntWalk.i64_in _ (by omega)
              have e3 : IntKind.i64.wrap ((i : Int) + 1) = (i : Int) + 1 := IntWalk.i64_in _ (by omega)
              have j2 : (i : Int) < (r : Int) := by omega
              have j1 : (0 : Int) ≤ (i : Int) := by omega
              clear HY
              go_wp2_with fail
              go_round
              case rel => exact ⟨i + 1, by omega, by go_num, by rw [HD.out]⟩
              case measure => simp [intOf]; omega
            · obtain rfl : i = r := by omega
              have e1 : Int.tmod (n / 256 ^ i) 256 = n / 256 ^ i % 256 := Int.tmod_eq_emod_of_nonneg hdc.1
              clear hdn
              generalize n / 256 ^ i = c at *
              have e2 : IntKind.i64.wrap (Int.tmod c 256) = c % 256 := by rw [e1]; exact IntWalk.i64_in _ (by omega)
              have e4 : IntKind.u32.wrap (c % 256) = c % 256 := IntWalk.u32_in _ (by omega)
              have e5 : IntKind.i64.wrap ((i : Int) - 1) = (i : Int) - 1 := IntWalk.i64_in _ (by omega)
              have hni : ¬ (i : Int) < (i : Int) := by omega
              go_wp2_with fail
              go_round
              case rel => exact ⟨i, hashS y (c % 256), by omega, rfl, rfl, Go.Lib.hid (by have := HY.out; rwa [hashL_cons] at this)⟩
              case measure => simp [intOf]
    · obtain rfl : k = 5 := by omega
      go_wp2
      go_ret
      exact ⟨by have := HL.out; rw [← this]; rfl, y3⟩
end Go.Proofs.Ytmgkkgpdnopeaaa

/- Contracts of package tcp: words and numbers of bytes. -/
namespace Go.Proofs.Ytmgkkgpdnopeaaa
open Go.ChangeShapes Go.WideShapes Go.ChangeAt Go.RowKit
set_option linter.unusedVariables false

set_option maxHeartbeats 400000 in
theorem tword (A : Option Addr) (n c : Nat) (l : List UInt8) (B : Nat) (w : World) (hn : l.length = n) (h : Bs w B A l) (k : Nat) (ki : Int) (hki : ki = (k : Int)) (hk : k + 1 < n) (hn2 : n ≤ 16777216) :
    Calls Try.prog 84 #[.slice A n c, .int .i64 ki] w fun e w' => e = .returned (.int .u16 (wd l k)) ∧ ∃ m, w' = w.drewN m := by
  subst hki
  obtain ⟨ad, rfl, hlt, hcell⟩ := g8_cells h (by omega)
  have c0 := hcell k (by omega)
  have c1 := hcell (k + 1) (by omega)
  rw [add_pos ad (k + 1) (by omega)] at c1
  have H := Go.Lib.hid hn
  clear hcell hn h
  have b0 := g8_lo l k
  have b1 := g8_hi l k
  have b2 := g8_lo l (k + 1)
  have b3 := g8_hi l (k + 1)
  have hw := u16_or8 (g8 l k) (g8 l (k + 1)) b0 b1 b2 b3
  have HE : Hid (wd l k = g8 l k * 256 + g8 l (k + 1)) := Go.Lib.hid rfl
  generalize g8 l k = x at *
  generalize g8 l (k + 1) = y at *
  have e1 := IntWalk.u16_in x (by omega)
  have e2 := IntWalk.u16_in y (by omega)
  have e3 := IntWalk.u16_in (x * 256) (by omega)
  have i0 : (k : Int) < (n : Int) := by omega
  have i1 : (k : Int) + 1 < (n : Int) := by omega
  have j0 : (0 : Int) ≤ (k : Int) := by omega
  have j1 : (0 : Int) ≤ (k : Int) + 1 := by omega
  have s1 : IntKind.i64.wrap ((k : Int) + 1) = (k : Int) + 1 := IntWalk.i64_in _ (by omega)
  have s2 : ((k : Int) + 1).toNat = k + 1 := by omega
  go_enter Try.func84, Try.ntmps84
  go_wp2
  go_quiet (fail)
  go_wp2
  go_ret
  exact ⟨ret_int HE.out.symm, _, rfl⟩

theorem u32_or16t (a b : Int) (a0 : 0 ≤ a) (a1 : a ≤ 65535) (b0 : 0 ≤ b) (b1 : b ≤ 65535) : bits .or .u32 (a * 65536) b = a * 65536 + b := by
  rw [u32_or _ _ (by omega) (by omega) b0 (by omega), nat_join 16 _ _ (by omega) (by omega)]
  omega

set_option maxHeartbeats 400000 in
theorem tlong (A : Option Addr) (n c : Nat) (l : List UInt8) (B : Nat) (w : World) (hn : l.length = n) (h : Bs w B A l) (k : Nat) (ki : Int) (hki : ki = (k : Int)) (hk : k + 3 < n) (hn2 : n ≤ 16777216) :
    Calls Try.prog 85 #[.slice A n c, .int .i64 ki] w fun e w' => e = .returned (.int .u32 (ad4 l k)) ∧ ∃ m, w' = w.drewN m := by
  subst hki
  have HN := Go.Lib.hid hn
  have HB := Go.Lib.hid h
  clear hn h
  have b0 := wd_lo l k
  have b1 := wd_hi l k
  have b2 := wd_lo l (k + 2)
  have b3 := wd_hi l (k + 2)
  have hw := u32_or16t (wd l k) (wd l (k + 2)) b0 b1 b2 b3
  have e1 := IntWalk.u32_in (wd l k) (by omega)
  have e2 := IntWalk.u32_in (wd l (k + 2)) (by omega)
  have e3 := IntWalk.u32_in (wd l k * 65536) (by omega)
  have s1 : IntKind.i64.wrap ((k : Int) + 2) = (k : Int) + 2 := IntWalk.i64_in _ (by omega)
  go_enter Try.func85, Try.ntmps85
  go_wp2_with fail
  refine (tword A n c l B _ HN.out HB.out k _ rfl (by omega) hn2).mono ?_
  rintro e w' ⟨rfl, m, rfl⟩
  go_wp2_with fail
  refine (tword A n c l B _ HN.out (HB.out.drewN _) (k + 2) _ (by omega) (by omega) hn2).mono ?_
  rintro e w' ⟨rfl, m2, rfl⟩
  go_wp2
  go_ret
  exact ⟨rfl, _, rfl⟩

set_option maxHeartbeats 400000 in
theorem tupTo (n m : Int) (w : World) :
    Calls Try.prog 60 #[.int .i64 n, .int .i64 m] w fun e w' => e = .returned (.bool (upB n m)) ∧ w = w' := by
  unfold upB
  by_cases h0 : 0 ≤ n
  · by_cases h1 : n ≤ m
    · go_enter Try.func60, Try.ntmps60
      go_wp2
      go_ret
      exact ⟨by simp [h0, h1], rfl⟩
    · go_enter Try.func60, Try.ntmps60
      go_wp2
      go_ret
      exact ⟨by simp [h1], rfl⟩
  · go_enter Try.func60, Try.ntmps60
    go_wp2
    go_ret
    exact ⟨by simp; omega, rfl⟩

set_option maxHeartbeats 400000 in
theorem tputWord (w : World) (base g n c : Nat) (l : List UInt8) (h : Own w base g n c l) (k : Nat) (ki : Int) (hki : ki = (k : Int)) (hk : k + 1 < n) (hn : n ≤ 16777216) (x : Int) (x0 : 0 ≤ x) (x1 : x ≤ 65535) :
    Calls Try.prog 41 #[.slice (some ⟨g, 0, none⟩) n c, .int .i64 ki, .int .u16 x] w fun e w' => e = .returned (.tuple #[]) ∧ Own w' base g n c ((l.set k (b8 (x / 256))).set (k + 1) (b8 (x % 256))) ∧ Below base w w' := by
  subst hki
  have c0 := h.cellAt k (by omega)
  have c1 := h.cellAt (k + 1) (by omega)
  have r0 := h.frozenAt k
  have r1 := h.frozenAt (k + 1)
  obtain ⟨s1, s2⟩ := h.stored k (x / 256) (by omega) (by omega)
  obtain ⟨s3, s4⟩ := s1.stored (k + 1) (x % 256) (by omega) (by omega)
  have S := Go.Lib.hid (And.intro s3 (s2.trans s4))
  clear s1 s2 s3 s4 h
  have e1 := IntKind.wrap_u8 x
  have e2 := IntWalk.u8_in (x / 256) (by omega)
  go_enter Try.func41, Try.ntmps41
  go_wp2
  go_end0
  exact ⟨rfl, S.out⟩

set_option maxHeartbeats 400000 in
theorem tputLong (w : World) (base g n c : Nat) (l : List UInt8) (h : Own w base g n c l) (k : Nat) (ki : Int) (hki : ki = (k : Int)) (hk : k + 3 < n) (hn : n ≤ 16777216) (x : Int) (x0 : 0 ≤ x) (x1 : x ≤ 4294967295) :
    Calls Try.prog 64 #[.slice (some ⟨g, 0, none⟩) n c, .int .i64 ki, .int .u32 x] w fun e w' => e = .returned (.tuple #[]) ∧
      Own w' base g n c ((((l.set k (b8 (x / 65536 / 256))).set (k + 1) (b8 (x / 65536 % 256))).set (k + 2) (b8 (x % 65536 / 256))).set (k + 2 + 1) (b8 (x % 65536 % 256))) ∧ Below base w w' := by
  subst hki
  have H := Go.Lib.hid h
  clear h
  have e1 := IntKind.wrap_u16 x
  have e2 := IntWalk.u16_in (x / 65536) (by omega)
  have s1 : IntKind.i64.wrap ((k : Int) + 2) = (k : Int) + 2 := IntWalk.i64_in _ (by omega)
  go_enter Try.func64, Try.ntmps64
  go_wp2_with fail
  refine (tputWord w base g n c l H.out k _ rfl (by omega) hn (x / 65536) (by omega) (by omega)).mono ?_
  rintro e w1 ⟨rfl, h1, b1⟩
  go_wp2_with fail
  refine (tputWord w1 base g n c _ h1 (k + 2) _ (by omega) (by omega) hn (x % 65536) (by omega) (by omega)).mono ?_
  rintro e w2 ⟨rfl, h2, b2⟩
  go_wp2
  go_end0
  exact ⟨rfl, h2, b1.trans b2⟩
end Go.Proofs.Ytmgkkgpdnopeaaa
