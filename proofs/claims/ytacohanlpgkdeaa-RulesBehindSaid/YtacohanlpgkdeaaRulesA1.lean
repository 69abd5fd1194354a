/- The landed rules: isFrom, zonesFit, mayBe. -/
import Derived.Test.YtacohanlpgkdeaaRulesR2
import Derived.Test.YtacohanlpgkdeaaRouteA1
namespace Go.Proofs.Ytacohanlpgkdeaa
open Go.ChangeShapes Go.WideShapes Go.ChangeAt Go.RowKit
set_option linter.unusedVariables false
set_option linter.unusedSimpArgs false

theorem btw_false (a x b : Int) (h : ¬ (a ≤ x ∧ x ≤ b)) : btw a x b = false := by
  cases e : btw a x b
  · rfl
  · exact absurd ((btw_iff _ _ _).1 e) h
set_option maxRecDepth 100000 in
set_option maxHeartbeats 4000000 in
theorem cisFrom (n a b : Int) (w : World) (q : Bool) (hq : btw a n b = q) :
    Calls Try.prog 18 #[.int .i64 n, .int .i64 a, .int .i64 b] w fun e w' => e = .returned (.bool q) ∧ w' = w := by
  have HQ0 := Go.Lib.hid hq
  clear hq
  by_cases a1 : a ≤ n
  · by_cases a2 : n ≤ b
    · have HQ : Hid (q = true) := Go.Lib.hid (by rw [← HQ0.out]; exact (btw_iff _ _ _).2 ⟨a1, a2⟩)
      go_enter Try.func18, Try.ntmps18
      go_wp2_with fail
      go_ret
      exact ⟨by rw [HQ.out]; rfl, rfl⟩
    · have HQ : Hid (q = false) := Go.Lib.hid (by rw [← HQ0.out]; exact btw_false _ _ _ (fun h => a2 h.2))
      go_enter Try.func18, Try.ntmps18
      go_wp2_with fail
      go_ret
      exact ⟨by rw [HQ.out]; rfl, rfl⟩
  · have HQ : Hid (q = false) := Go.Lib.hid (by rw [← HQ0.out]; exact btw_false _ _ _ (fun h => a1 h.1))
    go_enter Try.func18, Try.ntmps18
    go_wp2_with fail
    go_ret
    exact ⟨by rw [HQ.out]; rfl, rfl⟩
set_option maxRecDepth 100000 in
set_option maxHeartbeats 4000000 in
theorem czonesFit (r : Ru) (f t : Int) (w : World) (q : Bool) (hq : zoneU r f t = q) :
    Calls Try.prog 16 #[ruV r, .int .i64 f, .int .i64 t] w fun e w' => e = .returned (.bool q) ∧ Below w.heap.size w w' := by
  have y0 : Below w.heap.size w (w.alloc (oRu r)) := below_alloc (Below.refl _ _) (Nat.le_refl _) _
  have h1 := Bxo.made w 25 (ruL r)
  have HQ0 := Go.Lib.hid hq
  obtain ⟨fr, to_, proto, src, dst, sbits, dbits, lo, hi_, act⟩ := r
  clear hq
  go_enter Try.func16, Try.ntmps16
  go_upto_region 1 with fail
  generalize (w.alloc (oRu ⟨fr, to_, proto, src, dst, sbits, dbits, lo, hi_, act⟩)) = W at *
  have c0 := h1.cell 0 rfl
  have c1 := h1.cell 1 rfl
  dsimp only at c0 c1
  clear h1
  have HZ' : Hid (((fr == -1 || fr == f) && (to_ == -1 || to_ == t)) = q) := HQ0
  obtain ⟨b1, e1⟩ : ∃ b, (fr == -1) = b := ⟨_, rfl⟩
  obtain ⟨b2, e2⟩ : ∃ b, (fr == f) = b := ⟨_, rfl⟩
  obtain ⟨b3, e3⟩ : ∃ b, (to_ == -1) = b := ⟨_, rfl⟩
  obtain ⟨b4, e4⟩ : ∃ b, (to_ == t) = b := ⟨_, rfl⟩
  have HZ : Hid (((b1 || b2) && (b3 || b4)) = q) := Go.Lib.hid (by rw [← HZ'.out, e1, e2, e3, e4])
  clear HZ' HQ0
  cases b1 <;> cases b2 <;> cases b3 <;> cases b4 <;> (go_wp2_with fail; go_ret; exact ⟨by rw [← HZ.out]; rfl, y0⟩)
set_option maxRecDepth 100000 in
set_option maxHeartbeats 4000000 in
theorem cmayBe (r : Ru) (w : World) (q : Bool) (hq : okU r = q) :
    Calls Try.prog 15 #[ruV r] w fun e w' => e = .returned (.bool q) ∧ Below w.heap.size w w' := by
  have y0 : Below w.heap.size w (w.alloc (oRu r)) := below_alloc (Below.refl _ _) (Nat.le_refl _) _
  have h1 := Bxo.made w 25 (ruL r)
  have HQ0 := Go.Lib.hid hq
  obtain ⟨fr, to_, proto, src, dst, sbits, dbits, lo, hi_, act⟩ := r
  clear hq
  go_enter Try.func15, Try.ntmps15
  go_upto_region 1 with fail
  generalize (w.alloc (oRu ⟨fr, to_, proto, src, dst, sbits, dbits, lo, hi_, act⟩)) = W at *
  have c0 := h1.cell 0 rfl
  have c1 := h1.cell 1 rfl
  dsimp only at c0 c1
  have H1 := Go.Lib.hid h1
  clear h1
  obtain ⟨b0, e0⟩ : ∃ b, btw (-1) fr 7 = b := ⟨_, rfl⟩
  obtain ⟨b1, e1⟩ : ∃ b, btw (-1) to_ 7 = b := ⟨_, rfl⟩
  obtain ⟨b2, e2⟩ : ∃ b, btw 0 proto 255 = b := ⟨_, rfl⟩
  obtain ⟨b5, e5⟩ : ∃ b, btw 0 sbits 32 = b := ⟨_, rfl⟩
  obtain ⟨b6, e6⟩ : ∃ b, btw 0 dbits 32 = b := ⟨_, rfl⟩
  obtain ⟨b7, e7⟩ : ∃ b, btw 0 lo hi_ = b := ⟨_, rfl⟩
  obtain ⟨b8, e8⟩ : ∃ b, decide (hi_ ≤ 65535) = b := ⟨_, rfl⟩
  obtain ⟨b9, e9⟩ : ∃ b, (act == 1) = b := ⟨_, rfl⟩
  obtain ⟨b10, e10⟩ : ∃ b, (act == 2) = b := ⟨_, rfl⟩
  have HQ : Hid (((b0 && b1) && ((b5 && b6) && ((b7 && b8) && (b2 && (b9 || b10))))) = q) := Go.Lib.hid (by
    rw [← HQ0.out, ← e0, ← e1, ← e2, ← e5, ← e6, ← e7, ← e8, ← e9, ← e10, Bool.eq_iff_iff]
    unfold okU
    simp only [Bool.and_eq_true, btw_iff, decide_eq_true_eq, Bool.or_eq_true, beq_iff_eq]
    omega)
  have E0 := Go.Lib.hid e0
  have E1 := Go.Lib.hid e1
  have E2 := Go.Lib.hid e2
  have E5 := Go.Lib.hid e5
  have E6 := Go.Lib.hid e6
  have E7 := Go.Lib.hid e7
  clear e0 e1 e2 e5 e6 e7 HQ0
  obtain ⟨z, hz⟩ : ∃ z, (b0 && b1) = z := ⟨_, rfl⟩
  obtain ⟨n, hn⟩ : ∃ n, (b5 && b6) = n := ⟨_, rfl⟩
  obtain ⟨p, hp⟩ : ∃ p, (b7 && b8) = p := ⟨_, rfl⟩
  rw [hz, hn, hp] at HQ
  go_cut [3] (fun s wx => s = .bool z ∧ W = wx)
  case first =>
    subst hz
    cases b0
    · go_wp2_with (go_at_call_of 18 (Value.int IntKind.i64 fr); refine (cisFrom fr (-1) 7 _ _ E0.out).mono ?_; rintro e w3 ⟨rfl, hw3⟩; subst w3; dsimp only)
      go_meet
      exact ⟨rfl, rfl⟩
    · go_wp2_with (first | (go_at_call_of 18 (Value.int IntKind.i64 fr); refine (cisFrom fr (-1) 7 _ _ E0.out).mono ?_; rintro e w3 ⟨rfl, hw3⟩; subst w3; dsimp only) | (go_at_call_of 18 (Value.int IntKind.i64 to_); refine (cisFrom to_ (-1) 7 _ _ E1.out).mono ?_; rintro e w3 ⟨rfl, hw3⟩; subst w3; dsimp only))
      go_meet
      exact ⟨by simp, rfl⟩
  case rest =>
  obtain ⟨rfl, rfl⟩ := hcut
  have c5 := H1.out.cell 5 rfl
  have c6 := H1.out.cell 6 rfl
  dsimp only at c5 c6
  clear c0 c1
  go_upto_region 2 with fail
  go_cut [4] (fun s wx => s = .bool n ∧ W = wx)
  case first =>
    subst hn
    cases b5
    · go_wp2_with (go_at_call_of 18 (Value.int IntKind.i64 sbits); refine (cisFrom sbits 0 32 _ _ E5.out).mono ?_; rintro e w3 ⟨rfl, hw3⟩; subst w3; dsimp only)
      go_meet
      exact ⟨rfl, rfl⟩
    · go_wp2_with (first | (go_at_call_of 18 (Value.int IntKind.i64 sbits); refine (cisFrom sbits 0 32 _ _ E5.out).mono ?_; rintro e w3 ⟨rfl, hw3⟩; subst w3; dsimp only) | (go_at_call_of 18 (Value.int IntKind.i64 dbits); refine (cisFrom dbits 0 32 _ _ E6.out).mono ?_; rintro e w3 ⟨rfl, hw3⟩; subst w3; dsimp only))
      go_meet
      exact ⟨by simp, rfl⟩
  case rest =>
  obtain ⟨rfl, rfl⟩ := hcut
  have c7 := H1.out.cell 7 rfl
  have c8 := H1.out.cell 8 rfl
  dsimp only at c7 c8
  clear c5 c6
  go_upto_region 3 with fail
  go_cut [5] (fun s wx => s = .bool p ∧ W = wx)
  case first =>
    subst hp
    cases b7
    · go_wp2_with (go_at_call_of 18 (Value.int IntKind.i64 lo); refine (cisFrom lo 0 hi_ _ _ E7.out).mono ?_; rintro e w3 ⟨rfl, hw3⟩; subst w3; dsimp only)
      go_meet
      exact ⟨rfl, rfl⟩
    · cases b8
      · have t8 : ¬ hi_ ≤ 65535 := of_decide_eq_false e8
        clear e8
        go_wp2_with (go_at_call_of 18 (Value.int IntKind.i64 lo); refine (cisFrom lo 0 hi_ _ _ E7.out).mono ?_; rintro e w3 ⟨rfl, hw3⟩; subst w3; dsimp only)
        go_meet
        exact ⟨rfl, rfl⟩
      · have t8 : hi_ ≤ 65535 := of_decide_eq_true e8
        clear e8
        go_wp2_with (go_at_call_of 18 (Value.int IntKind.i64 lo); refine (cisFrom lo 0 hi_ _ _ E7.out).mono ?_; rintro e w3 ⟨rfl, hw3⟩; subst w3; dsimp only)
        go_meet
        exact ⟨rfl, rfl⟩
  case rest =>
  obtain ⟨rfl, rfl⟩ := hcut
  have c2 := H1.out.cell 2 rfl
  have c9 := H1.out.cell 9 rfl
  dsimp only at c2 c9
  clear c7 c8 H1 e8
  cases z
  · cases n <;> cases p <;> (go_wp2_with fail; go_ret; exact ⟨by rw [← HQ.out]; rfl, y0⟩)
  cases n
  · cases p <;> (go_wp2_with fail; go_ret; exact ⟨by rw [← HQ.out]; rfl, y0⟩)
  cases p
  · go_wp2_with fail
    go_ret
    exact ⟨by rw [← HQ.out]; rfl, y0⟩
  cases b2
  · go_wp2_with (go_at_call_of 18 (Value.int IntKind.i64 proto); refine (cisFrom proto 0 255 _ _ E2.out).mono ?_; rintro e w3 ⟨rfl, hw3⟩; subst w3; dsimp only)
    go_ret
    exact ⟨by rw [← HQ.out]; rfl, y0⟩
  · cases b9 <;> cases b10 <;> (go_wp2_with (go_at_call_of 18 (Value.int IntKind.i64 proto); refine (cisFrom proto 0 255 _ _ E2.out).mono ?_; rintro e w3 ⟨rfl, hw3⟩; subst w3; dsimp only); go_ret; exact ⟨by rw [← HQ.out]; rfl, y0⟩)
end Go.Proofs.Ytacohanlpgkdeaa
