/- Lemmas, several texts in one. -/
import Derived.Test.YtoghcefamoefpaaGreatDoorQ09
/- The landed conf: a net, a rule's line as texts. -/
namespace Go.Proofs.YtoghcefamoefpaaGreatDoor
open Go.ChangeShapes Go.WideShapes Go.ChangeAt Go.RowKit
set_option linter.unusedVariables false
set_option linter.unusedSimpArgs false

theorem numT_len {n : Int} (h : I64C n) : (numT n).length ≤ 20 := by
  have h1 := h.1
  have h2 := h.2
  have hn : n.natAbs < 10 ^ (18 + 1) := by omega
  have := natD_len hn
  unfold numT
  split
  · rw [List.length_cons]; omega
  · omega
theorem netT_len {a k : Int} (ha : 0 ≤ a ∧ a ≤ 4294967295) (hk : 0 ≤ k ∧ k ≤ 32) : (netT a k).length ≤ 36 := by
  have h1 := addrT_len ha
  have h2 := numT_len (n := k) ⟨by omega, by omega⟩
  unfold netT
  rw [List.length_append, List.length_cons]
  omega
set_option maxRecDepth 100000 in
set_option maxHeartbeats 1000000 in
theorem cnetT15 (a k : Int) (ha : 0 ≤ a ∧ a ≤ 4294967295) (hk : 0 ≤ k ∧ k ≤ 32) (w : World) (ht : Tb w) : Calls Tryz.prog 14 #[.int .u32 a, .int .i64 k] w fun e w' => (∃ s : ByteArray, e = .returned (.string s) ∧ txB s = netT a k ∧ s.size ≤ 36) ∧ Below w.heap.size w w' := by
  have HT := Go.Lib.hid ht
  have HI : Hid (I64C k) := Go.Lib.hid ⟨by omega, by omega⟩
  clear ht
  go_enter Tryz.func14, Tryz.ntmps14
  go_wp2_with (first
    | (go_at_call 17; refine (caddrT15 a ha _ HT.out).mono ?_; rintro e w2 ⟨⟨s, rfl, hs, zs⟩, y2⟩; have hz2 : ¬ 9223372036854775807 < s.size + 1 := (by omega); dsimp only)
    | (go_at_call 15; refine (citoa15 k HI.out _ (HT.out.at y2)).mono ?_; rintro e w3 ⟨⟨n, rfl, hn⟩, y3⟩; have hz3 : ¬ 9223372036854775807 < s.size + 1 + n.size := (by have := numT_len HI.out; rw [← hn, txB_len] at this; omega); dsimp only))
  go_ret
  refine ⟨⟨_, rfl, ?_, ?_⟩, y2.trans (y3.mono y2.size)⟩
  · rw [txB_app, txB_app, hs, hn]
    unfold netT
    simp [txB]
  · rw [← txB_len, txB_app, txB_app, hs, hn]
    have := netT_len ha hk
    unfold netT at this
    simpa [txB] using this
theorem row_new (w : World) (xs : List ByteArray) (e : TypeId) : ∀ (j : Nat) x, xs[j]? = some x → (w.alloc (.cells (xs.map Value.string).toArray e)).cell? ⟨w.heap.size, 0 + j, none⟩ = some (.string x) := fun j x hj => by
  rw [Nat.zero_add, cell_of_row _ _ _ _ _ _ (heap_alloc_new w _)]
  simpa using hj
theorem row_rule (r : Ru) : rowT [kRule, numT r.fr, numT r.to, numT r.proto, netT r.src r.sbits, netT r.dst r.dbits, numT r.lo, numT r.hi, actT r.act] = ruleT r ++ [10] := by
  unfold rowT ruleT
  rw [Lib.join_cons]
  simp [Lib.joinTail]
theorem ruleT_len {r : Ru} (hr : RngRu r) (h : OkU r) : (ruleT r).length ≤ 250 := by
  have a1 := numT_len (n := r.fr) (by have := h.fr; exact ⟨by omega, by omega⟩)
  have a2 := numT_len (n := r.to) (by have := h.to; exact ⟨by omega, by omega⟩)
  have a3 := numT_len (n := r.proto) (by have := h.proto; exact ⟨by omega, by omega⟩)
  have a4 := numT_len (n := r.lo) (by have := h.lo; exact ⟨by omega, by omega⟩)
  have a5 := numT_len (n := r.hi) (by have := h.hi; exact ⟨by omega, by omega⟩)
  have b1 := netT_len hr.src h.sbits
  have b2 := netT_len hr.dst h.dbits
  have b3 : (actT r.act).length ≤ 5 := by unfold actT; split <;> decide
  unfold ruleT
  simp only [List.length_append, List.length_cons, List.length_nil]
  omega
set_option maxRecDepth 100000 in
set_option maxHeartbeats 8000000 in
theorem cruleT15 (r : Ru) (hr : RngRu r) (ho : OkU r) (w : World) (ht : Tb w) : Calls Tryz.prog 16 #[ruV r] w fun e w' => (∃ s : ByteArray, e = .returned (.string s) ∧ txB s = ruleT r ++ [10] ∧ s.size ≤ 251) ∧ Below w.heap.size w w' := by
  have y0 : Below w.heap.size w (w.alloc (oRu r)) := (Below.refl _ _).alloc (Nat.le_refl _) _
  have hb := Bxo.made w 54 (ruL r)
  obtain ⟨fr, to_, proto, src, dst, sbits, dbits, lo, hi_, act⟩ := r
  have HR := Go.Lib.hid hr
  have HO := Go.Lib.hid ho
  have HT := Go.Lib.hid (ht.at y0)
  clear hr ho ht
  go_enter Tryz.func16, Tryz.ntmps16
  go_upto_region 1 with fail
  generalize w.alloc (oRu ⟨fr, to_, proto, src, dst, sbits, dbits, lo, hi_, act⟩) = W at *
  generalize hgs : w.heap.size = g at hb ⊢
  have HB := Go.Lib.hid hb
  have b9 := hb.cell 9 rfl
  dsimp only at b9
  clear hb
  obtain ⟨bb, hbb⟩ : ∃ bb, (act == 2) = bb := ⟨_, rfl⟩
  obtain ⟨ac, hac⟩ : ∃ ac : ByteArray, (if bb = true then ({ data := #[97, 108, 108, 111, 119] } : ByteArray) else { data := #[100, 101, 110, 121] }) = ac := ⟨_, rfl⟩
  have HAC : Hid (txB ac = actT act) := Go.Lib.hid (by
    rw [← hac, ← hbb]
    unfold actT
    by_cases h : act = 2
    · rw [if_pos (by simp [h]), if_pos h]; rfl
    · rw [if_neg (by simp [h]), if_neg h]; rfl)
  have HBB := Go.Lib.hid hac
  clear hac
  go_upto_if 8 with fail
  go_cut [3] (fun s wx => s = .string ac ∧ wx = W)
  case first =>
    have hac := HBB.out
    cases bb
    · rw [if_neg (by decide)] at hac
      subst hac
      go_wp2_with fail
      go_meet
      exact ⟨rfl, rfl⟩
    · rw [if_pos rfl] at hac
      subst hac
      go_wp2_with fail
      go_meet
      exact ⟨rfl, rfl⟩
  case rest =>
    obtain ⟨rfl, rfl⟩ := hcut
    rename World => W4
    go_upto_region 4 with fail
    try simp only [Act.put, List.setIfInBounds_toArray, List.set_cons_zero, List.set_cons_succ]
    refine wp_region_held_drew (S := fun Y => Below W4.heap.size W4 Y) (by kernel_rfl) ?_ (fun hHeld => ?_)
    · exact below_drew (Below.refl _ _)
    refine wpAnyH_take (i := 0) (oi := ⟨some 9, _, _, _, _, _⟩) (v := ?_) rfl (by kernel_rfl) (by kernel_rfl) (by kernel_rfl) (fun _ _ _ h => h) (Or.inl ⟨by rfl, ?_⟩) (by assumption) ?_
    rotate_left
    · intro w hSw; (try dsimp only at hSw); go_simp; (try with_reducible rfl)
    try simp only [Act.put, List.setIfInBounds_toArray, List.set_cons_zero, List.set_cons_succ]
    refine wpAnyH_take (i := 1) (oi := ⟨some 10, _, _, _, _, _⟩) (v := ?_) rfl (by kernel_rfl) (by kernel_rfl) (by kernel_rfl) (fun _ _ _ h => h) (Or.inl ⟨by rfl, ?_⟩) (by assumption) ?_
    rotate_left
    · intro w hSw; have c3 := (HB.out.keep hSw HB.out.lt).cell 3 rfl; dsimp only at c3; (try dsimp only at hSw); go_simp; (try with_reducible rfl)
    try simp only [Act.put, List.setIfInBounds_toArray, List.set_cons_zero, List.set_cons_succ]
    refine wpAnyH_take (i := 2) (oi := ⟨some 11, _, _, _, _, _⟩) (v := ?_) rfl (by kernel_rfl) (by kernel_rfl) (by kernel_rfl) (fun _ _ _ h => h) (Or.inl ⟨by rfl, ?_⟩) (by assumption) ?_
    rotate_left
    · intro w hSw; (try dsimp only at hSw); go_simp; (try with_reducible rfl)
    try simp only [Act.put, List.setIfInBounds_toArray, List.set_cons_zero, List.set_cons_succ]
    refine wpAnyH_take (i := 3) (oi := ⟨some 12, _, _, _, _, _⟩) (v := ?_) rfl (by kernel_rfl) (by kernel_rfl) (by kernel_rfl) (fun _ _ _ h => h) (Or.inl ⟨by rfl, ?_⟩) (by assumption) ?_
    rotate_left
    · intro w hSw; have c5 := (HB.out.keep hSw HB.out.lt).cell 5 rfl; dsimp only at c5; (try dsimp only at hSw); go_simp; (try with_reducible rfl)
    try simp only [Act.put, List.setIfInBounds_toArray, List.set_cons_zero, List.set_cons_succ]
    refine wpAnyH_take (i := 5) (oi := ⟨some 14, _, _, _, _, _⟩) (v := ?_) rfl (by kernel_rfl) (by kernel_rfl) (by kernel_rfl) (fun _ _ _ h => h) (Or.inl ⟨by rfl, ?_⟩) (by assumption) ?_
    rotate_left
    · intro w hSw; (try dsimp only at hSw); go_simp; (try with_reducible rfl)
    try simp only [Act.put, List.setIfInBounds_toArray, List.set_cons_zero, List.set_cons_succ]
    refine wpAnyH_take (i := 6) (oi := ⟨some 15, _, _, _, _, _⟩) (v := ?_) rfl (by kernel_rfl) (by kernel_rfl) (by kernel_rfl) (fun _ _ _ h => h) (Or.inl ⟨by rfl, ?_⟩) (by assumption) ?_
    rotate_left
    · intro w hSw; have c4 := (HB.out.keep hSw HB.out.lt).cell 4 rfl; dsimp only at c4; (try dsimp only at hSw); go_simp; (try with_reducible rfl)
    try simp only [Act.put, List.setIfInBounds_toArray, List.set_cons_zero, List.set_cons_succ]
    refine wpAnyH_take (i := 7) (oi := ⟨some 16, _, _, _, _, _⟩) (v := ?_) rfl (by kernel_rfl) (by kernel_rfl) (by kernel_rfl) (fun _ _ _ h => h) (Or.inl ⟨by rfl, ?_⟩) (by assumption) ?_
    rotate_left
    · intro w hSw; (try dsimp only at hSw); go_simp; (try with_reducible rfl)
    try simp only [Act.put, List.setIfInBounds_toArray, List.set_cons_zero, List.set_cons_succ]
    refine wpAnyH_take (i := 8) (oi := ⟨some 17, _, _, _, _, _⟩) (v := ?_) rfl (by kernel_rfl) (by kernel_rfl) (by kernel_rfl) (fun _ _ _ h => h) (Or.inl ⟨by rfl, ?_⟩) (by assumption) ?_
    rotate_left
    · intro w hSw; have c6 := (HB.out.keep hSw HB.out.lt).cell 6 rfl; dsimp only at c6; (try dsimp only at hSw); go_simp; (try with_reducible rfl)
    try simp only [Act.put, List.setIfInBounds_toArray, List.set_cons_zero, List.set_cons_succ]
    refine wpAnyH_ready (rs := [4]) (by kernel_rfl) (by simp) (AllReadyH.cons (o := ⟨some 13, _, _, _, _, _⟩) rfl (fun Kc hKc => ?_) AllReadyH.nil)
    go_simp
    go_at_call 14; refine (cnetT15 src sbits HR.out.src HO.out.sbits _ (HT.out.at hHeld)).mono ?_; rintro e w7 ⟨⟨s1, rfl, hs1, zs1⟩, y7⟩; dsimp only
    refine hKc.out _ _ (hHeld.trans (y7.mono hHeld.size)) (fun hHeld => ?_)
    clear hKc Kc
    try simp only [Act.put, List.setIfInBounds_toArray, List.set_cons_zero, List.set_cons_succ]
    refine wpAnyH_ready (rs := [9]) (by kernel_rfl) (by simp) (AllReadyH.cons (o := ⟨some 18, _, _, _, _, _⟩) rfl (fun Kc hKc => ?_) AllReadyH.nil)
    go_simp
    go_at_call 14; refine (cnetT15 dst dbits HR.out.dst HO.out.dbits _ (HT.out.at hHeld)).mono ?_; rintro e w8 ⟨⟨s2, rfl, hs2, zs2⟩, y8⟩; dsimp only
    refine hKc.out _ _ (hHeld.trans (y8.mono hHeld.size)) (fun hHeld => ?_)
    clear hKc Kc
    try simp only [Act.put, List.setIfInBounds_toArray, List.set_cons_zero, List.set_cons_succ]
    refine wpAnyH_take (i := 10) (oi := ⟨some 4, _, _, _, _, _⟩) (v := ?_) rfl (by kernel_rfl) (by kernel_rfl) (by kernel_rfl) (fun _ _ _ h => h) (Or.inl ⟨by rfl, ?_⟩) (by assumption) ?_
    rotate_left
    · intro w hSw; (try dsimp only at hSw); go_simp; (try with_reducible rfl)
    try simp only [Act.put, List.setIfInBounds_toArray, List.set_cons_zero, List.set_cons_succ]
    refine wpAnyH_take (i := 11) (oi := ⟨some 5, _, _, _, _, _⟩) (v := ?_) rfl (by kernel_rfl) (by kernel_rfl) (by kernel_rfl) (fun _ _ _ h => h) (Or.inl ⟨by rfl, ?_⟩) (by assumption) ?_
    rotate_left
    · intro w hSw; (try dsimp only at hSw); go_simp; (try with_reducible rfl)
    try simp only [Act.put, List.setIfInBounds_toArray, List.set_cons_zero, List.set_cons_succ]
    refine wpAnyH_done (by kernel_rfl) ?_ _
    have yq := hHeld
    clear hHeld
    go_upto_region 5 with fail
    have x2 := y0.trans (yq.mono y0.size)
    have H2 := Go.Lib.hid (HB.out.keep yq HB.out.lt)
    have HT2 := Go.Lib.hid (HT.out.at yq)
    try simp only [Act.put, List.setIfInBounds_toArray, List.set_cons_zero, List.set_cons_succ]
    refine wp_region_held_drew (S := fun Y => Below w8.heap.size w8 Y) (by kernel_rfl) ?_ (fun hHeld => ?_)
    · exact below_drew (Below.refl _ _)
    refine wpAnyH_take (i := 0) (oi := ⟨some 19, _, _, _, _, _⟩) (v := ?_) rfl (by kernel_rfl) (by kernel_rfl) (by kernel_rfl) (fun _ _ _ h => h) (Or.inl ⟨by rfl, ?_⟩) (by assumption) ?_
    rotate_left
    · intro w hSw; (try dsimp only at hSw); go_simp; (try with_reducible rfl)
    try simp only [Act.put, List.setIfInBounds_toArray, List.set_cons_zero, List.set_cons_succ]
    refine wpAnyH_take (i := 1) (oi := ⟨some 20, _, _, _, _, _⟩) (v := ?_) rfl (by kernel_rfl) (by kernel_rfl) (by kernel_rfl) (fun _ _ _ h => h) (Or.inl ⟨by rfl, ?_⟩) (by assumption) ?_
    rotate_left
    · intro w hSw; have c0 := (H2.out.keep hSw H2.out.lt).cell 0 rfl; dsimp only at c0; (try dsimp only at hSw); go_simp; (try with_reducible rfl)
    try simp only [Act.put, List.setIfInBounds_toArray, List.set_cons_zero, List.set_cons_succ]
    refine wpAnyH_take (i := 3) (oi := ⟨some 22, _, _, _, _, _⟩) (v := ?_) rfl (by kernel_rfl) (by kernel_rfl) (by kernel_rfl) (fun _ _ _ h => h) (Or.inl ⟨by rfl, ?_⟩) (by assumption) ?_
    rotate_left
    · intro w hSw; (try dsimp only at hSw); go_simp; (try with_reducible rfl)
    try simp only [Act.put, List.setIfInBounds_toArray, List.set_cons_zero, List.set_cons_succ]
    refine wpAnyH_take (i := 4) (oi := ⟨some 23, _, _, _, _, _⟩) (v := ?_) rfl (by kernel_rfl) (by kernel_rfl) (by kernel_rfl) (fun _ _ _ h => h) (Or.inl ⟨by rfl, ?_⟩) (by assumption) ?_
    rotate_left
    · intro w hSw; have c1 := (H2.out.keep hSw H2.out.lt).cell 1 rfl; dsimp only at c1; (try dsimp only at hSw); go_simp; (try with_reducible rfl)
    try simp only [Act.put, List.setIfInBounds_toArray, List.set_cons_zero, List.set_cons_succ]
    refine wpAnyH_take (i := 6) (oi := ⟨some 25, _, _, _, _, _⟩) (v := ?_) rfl (by kernel_rfl) (by kernel_rfl) (by kernel_rfl) (fun _ _ _ h => h) (Or.inl ⟨by rfl, ?_⟩) (by assumption) ?_
    rotate_left
    · intro w hSw; (try dsimp only at hSw); go_simp; (try with_reducible rfl)
    try simp only [Act.put, List.setIfInBounds_toArray, List.set_cons_zero, List.set_cons_succ]
    refine wpAnyH_take (i := 7) (oi := ⟨some 26, _, _, _, _, _⟩) (v := ?_) rfl (by kernel_rfl) (by kernel_rfl) (by kernel_rfl) (fun _ _ _ h => h) (Or.inl ⟨by rfl, ?_⟩) (by assumption) ?_
    rotate_left
    · intro w hSw; have c2 := (H2.out.keep hSw H2.out.lt).cell 2 rfl; dsimp only at c2; (try dsimp only at hSw); go_simp; (try with_reducible rfl)
    try simp only [Act.put, List.setIfInBounds_toArray, List.set_cons_zero, List.set_cons_succ]
    refine wpAnyH_take (i := 9) (oi := ⟨some 28, _, _, _, _, _⟩) (v := ?_) rfl (by kernel_rfl) (by kernel_rfl) (by kernel_rfl) (fun _ _ _ h => h) (Or.inl ⟨by rfl, ?_⟩) (by assumption) ?_
    rotate_left
    · intro w hSw; (try dsimp only at hSw); go_simp; (try with_reducible rfl)
    try simp only [Act.put, List.setIfInBounds_toArray, List.set_cons_zero, List.set_cons_succ]
    refine wpAnyH_take (i := 10) (oi := ⟨some 29, _, _, _, _, _⟩) (v := ?_) rfl (by kernel_rfl) (by kernel_rfl) (by kernel_rfl) (fun _ _ _ h => h) (Or.inl ⟨by rfl, ?_⟩) (by assumption) ?_
    rotate_left
    · intro w hSw; (try dsimp only at hSw); go_simp; (try with_reducible rfl)
    try simp only [Act.put, List.setIfInBounds_toArray, List.set_cons_zero, List.set_cons_succ]
    refine wpAnyH_take (i := 11) (oi := ⟨some 30, _, _, _, _, _⟩) (v := ?_) rfl (by kernel_rfl) (by kernel_rfl) (by kernel_rfl) (fun _ _ _ h => h) (Or.inl ⟨by rfl, ?_⟩) (by assumption) ?_
    rotate_left
    · intro w hSw; (try dsimp only at hSw); go_simp; (try with_reducible rfl)
    try simp only [Act.put, List.setIfInBounds_toArray, List.set_cons_zero, List.set_cons_succ]
    refine wpAnyH_take (i := 12) (oi := ⟨some 31, _, _, _, _, _⟩) (v := ?_) rfl (by kernel_rfl) (by kernel_rfl) (by kernel_rfl) (fun _ _ _ h => h) (Or.inl ⟨by rfl, ?_⟩) (by assumption) ?_
    rotate_left
    · intro w hSw; have c7 := (H2.out.keep hSw H2.out.lt).cell 7 rfl; dsimp only at c7; (try dsimp only at hSw); go_simp; (try with_reducible rfl)
    try simp only [Act.put, List.setIfInBounds_toArray, List.set_cons_zero, List.set_cons_succ]
    refine wpAnyH_take (i := 14) (oi := ⟨some 33, _, _, _, _, _⟩) (v := ?_) rfl (by kernel_rfl) (by kernel_rfl) (by kernel_rfl) (fun _ _ _ h => h) (Or.inl ⟨by rfl, ?_⟩) (by assumption) ?_
    rotate_left
    · intro w hSw; (try dsimp only at hSw); go_simp; (try with_reducible rfl)
    try simp only [Act.put, List.setIfInBounds_toArray, List.set_cons_zero, List.set_cons_succ]
    refine wpAnyH_take (i := 15) (oi := ⟨some 34, _, _, _, _, _⟩) (v := ?_) rfl (by kernel_rfl) (by kernel_rfl) (by kernel_rfl) (fun _ _ _ h => h) (Or.inl ⟨by rfl, ?_⟩) (by assumption) ?_
    rotate_left
    · intro w hSw; have c8 := (H2.out.keep hSw H2.out.lt).cell 8 rfl; dsimp only at c8; (try dsimp only at hSw); go_simp; (try with_reducible rfl)
    try simp only [Act.put, List.setIfInBounds_toArray, List.set_cons_zero, List.set_cons_succ]
    refine wpAnyH_take (i := 17) (oi := ⟨some 36, _, _, _, _, _⟩) (v := ?_) rfl (by kernel_rfl) (by kernel_rfl) (by kernel_rfl) (fun _ _ _ h => h) (Or.inl ⟨by rfl, ?_⟩) (by assumption) ?_
    rotate_left
    · intro w hSw; (try dsimp only at hSw); go_simp; (try with_reducible rfl)
    try simp only [Act.put, List.setIfInBounds_toArray, List.set_cons_zero, List.set_cons_succ]
    refine wpAnyH_ready (rs := [2]) (by kernel_rfl) (by simp) (AllReadyH.cons (o := ⟨some 21, _, _, _, _, _⟩) rfl (fun Kc hKc => ?_) AllReadyH.nil)
    go_simp
    go_at_call 15; refine (citoa15 fr (by have h := HO.out.fr; dsimp only at h; exact ⟨by omega, by omega⟩) _ (HT2.out.at hHeld)).mono ?_; rintro e w9 ⟨⟨n0, rfl, hn0⟩, yw9⟩; dsimp only
    refine hKc.out _ _ (hHeld.trans (yw9.mono hHeld.size)) (fun hHeld => ?_)
    clear hKc Kc
    try simp only [Act.put, List.setIfInBounds_toArray, List.set_cons_zero, List.set_cons_succ]
    refine wpAnyH_ready (rs := [5]) (by kernel_rfl) (by simp) (AllReadyH.cons (o := ⟨some 24, _, _, _, _, _⟩) rfl (fun Kc hKc => ?_) AllReadyH.nil)
    go_simp
    go_at_call 15; refine (citoa15 to_ (by have h := HO.out.to; dsimp only at h; exact ⟨by omega, by omega⟩) _ (HT2.out.at hHeld)).mono ?_; rintro e wa ⟨⟨n1, rfl, hn1⟩, ywa⟩; dsimp only
    refine hKc.out _ _ (hHeld.trans (ywa.mono hHeld.size)) (fun hHeld => ?_)
    clear hKc Kc
    try simp only [Act.put, List.setIfInBounds_toArray, List.set_cons_zero, List.set_cons_succ]
    refine wpAnyH_ready (rs := [8]) (by kernel_rfl) (by simp) (AllReadyH.cons (o := ⟨some 27, _, _, _, _, _⟩) rfl (fun Kc hKc => ?_) AllReadyH.nil)
    go_simp
    go_at_call 15; refine (citoa15 proto (by have h := HO.out.proto; dsimp only at h; exact ⟨by omega, by omega⟩) _ (HT2.out.at hHeld)).mono ?_; rintro e wb ⟨⟨n2, rfl, hn2⟩, ywb⟩; dsimp only
    refine hKc.out _ _ (hHeld.trans (ywb.mono hHeld.size)) (fun hHeld => ?_)
    clear hKc Kc
    try simp only [Act.put, List.setIfInBounds_toArray, List.set_cons_zero, List.set_cons_succ]
    refine wpAnyH_ready (rs := [13]) (by kernel_rfl) (by simp) (AllReadyH.cons (o := ⟨some 32, _, _, _, _, _⟩) rfl (fun Kc hKc => ?_) AllReadyH.nil)
    go_simp
    go_at_call 15; refine (citoa15 lo (by have h := HO.out.lo; dsimp only at h; exact ⟨by omega, by omega⟩) _ (HT2.out.at hHeld)).mono ?_; rintro e wc ⟨⟨n3, rfl, hn3⟩, ywc⟩; dsimp only
    refine hKc.out _ _ (hHeld.trans (ywc.mono hHeld.size)) (fun hHeld => ?_)
    clear hKc Kc
    try simp only [Act.put, List.setIfInBounds_toArray, List.set_cons_zero, List.set_cons_succ]
    refine wpAnyH_ready (rs := [16]) (by kernel_rfl) (by simp) (AllReadyH.cons (o := ⟨some 35, _, _, _, _, _⟩) rfl (fun Kc hKc => ?_) AllReadyH.nil)
    go_simp
    go_at_call 15; refine (citoa15 hi_ (by have h := HO.out.hi; dsimp only at h; exact ⟨by omega, by omega⟩) _ (HT2.out.at hHeld)).mono ?_; rintro e wd ⟨⟨n4, rfl, hn4⟩, ywd⟩; dsimp only
    refine hKc.out _ _ (hHeld.trans (ywd.mono hHeld.size)) (fun hHeld => ?_)
    clear hKc Kc
    try simp only [Act.put, List.setIfInBounds_toArray, List.set_cons_zero, List.set_cons_succ]
    refine wpAnyH_ready (rs := [18]) (by kernel_rfl) (by simp) (AllReadyH.cons (o := ⟨some 37, _, _, _, _, _⟩) rfl (fun Kc hKc => ?_) AllReadyH.nil)
    go_simp
    have yB : Below wd.heap.size wd (wd.alloc (.cells #[.string { data := #[114, 117, 108, 101] }, .string n0, .string n1, .string n2, .string s1, .string s2, .string n3, .string n4, .string ac] 9)) := (Below.refl _ _).alloc (Nat.le_refl _) _; have HROW := Go.Lib.hid (row_new wd [{ data := #[114, 117, 108, 101] }, n0, n1, n2, s1, s2, n3, n4, ac] 9); have HLT : Hid (wd.heap.size < (wd.alloc (.cells #[.string { data := #[114, 117, 108, 101] }, .string n0, .string n1, .string n2, .string s1, .string s2, .string n3, .string n4, .string ac] 9)).heap.size) := Go.Lib.hid (by simp); have HROW : Hid (∀ (j : Nat) x, ([{ data := #[114, 117, 108, 101] }, n0, n1, n2, s1, s2, n3, n4, ac] : List ByteArray)[j]? = some x → (wd.alloc (.cells #[.string { data := #[114, 117, 108, 101] }, .string n0, .string n1, .string n2, .string s1, .string s2, .string n3, .string n4, .string ac] 9)).cell? ⟨wd.heap.size, 0 + j, none⟩ = some (.string x)) := HROW; generalize wd.alloc (.cells #[.string { data := #[114, 117, 108, 101] }, .string n0, .string n1, .string n2, .string s1, .string s2, .string n3, .string n4, .string ac] 9) = wB at *
    refine hKc.out _ _ (hHeld.trans (yB.mono hHeld.size)) (fun hHeld => ?_)
    clear hKc Kc
    try simp only [Act.put, List.setIfInBounds_toArray, List.set_cons_zero, List.set_cons_succ]
    refine wpAnyH_ready (rs := [19]) (by kernel_rfl) (by simp) (AllReadyH.cons (o := ⟨some 38, _, _, _, _, _⟩) rfl (fun Kc hKc => ?_) AllReadyH.nil)
    go_simp
    go_at_call 13; refine (crowz15 wd.heap.size 9 9 [{ data := #[114, 117, 108, 101] }, n0, n1, n2, s1, s2, n3, n4, ac] rfl _ HROW.out HLT.out (by omega) (by omega) (ruleT ⟨fr, to_, proto, src, dst, sbits, dbits, lo, hi_, act⟩) (by show rowT [kRule, txB n0, txB n1, txB n2, txB s1, txB s2, txB n3, txB n4, txB ac] = _; rw [hn0, hn1, hn2, hs1, hs2, hn3, hn4, HAC.out]; exact row_rule ⟨fr, to_, proto, src, dst, sbits, dbits, lo, hi_, act⟩) (by have := ruleT_len HR.out HO.out; omega)).mono ?_; rintro e we ⟨⟨s9, rfl, hs9, zs9⟩, ye⟩; dsimp only
    refine hKc.out _ _ (hHeld.trans (ye.mono hHeld.size)) (fun hHeld => ?_)
    clear hKc Kc
    try simp only [Act.put, List.setIfInBounds_toArray, List.set_cons_zero, List.set_cons_succ]
    refine wpAnyH_take (i := 20) (oi := ⟨some 2, _, _, _, _, _⟩) (v := ?_) rfl (by kernel_rfl) (by kernel_rfl) (by kernel_rfl) (fun _ _ _ h => h) (Or.inl ⟨by rfl, ?_⟩) (by assumption) ?_
    rotate_left
    · intro w hSw; (try dsimp only at hSw); go_simp; (try with_reducible rfl)
    try simp only [Act.put, List.setIfInBounds_toArray, List.set_cons_zero, List.set_cons_succ]
    refine wpAnyH_done (by kernel_rfl) ?_ _
    have yq := hHeld
    clear hHeld
    go_wp2
    go_ret
    exact ⟨⟨_, rfl, hs9, by have := ruleT_len HR.out HO.out; omega⟩, x2.trans (yq.mono x2.size)⟩
    

end Go.Proofs.YtoghcefamoefpaaGreatDoor

/- The landed conf: a forward's line as a text. -/
namespace Go.Proofs.YtoghcefamoefpaaGreatDoor
open Go.ChangeShapes Go.WideShapes Go.ChangeAt Go.RowKit
set_option linter.unusedVariables false
set_option linter.unusedSimpArgs false

theorem own_new (w : World) (base : Nat) (xs : List ByteArray) (e : TypeId) (n : Nat) (hn : xs.length = n) (h20 : n ≤ 20) (hb : base ≤ w.heap.size) : (w.alloc (.cells (xs.map Value.string).toArray e)).ownsRow base e 1 (.slice (some ⟨w.heap.size, 0, none⟩) n n) n (xs.map Value.string) := by
  subst hn
  exact ⟨by simp, .inr ⟨w.heap.size, xs.length, (xs.map Value.string).toArray, rfl, hb, heap_alloc_new w _, Nat.le_refl _, by unfold maxLen; omega, by simp, List.take_of_length_le (by simp)⟩⟩
theorem row_fw (a b c d : Int) : rowT [kForward, numT a, numT b, addrT c, numT d] = forwardT ⟨a, b, c, d, false⟩ ++ [10] := by
  unfold rowT forwardT
  rw [Lib.join_cons]
  simp [Lib.joinTail]
theorem row_fwp (a b c d : Int) : rowT ([kForward, numT a, numT b, addrT c, numT d] ++ [kProxy]) = forwardT ⟨a, b, c, d, true⟩ ++ [10] := by
  unfold rowT forwardT
  show Lib.join [kForward, numT a, numT b, addrT c, numT d, kProxy] [32] ++ [10] = _
  rw [Lib.join_cons]
  simp [Lib.joinTail]
theorem fwT_len {a b c d : Int} {p : Bool} (h1 : I64C a) (h2 : I64C b) (h3 : 0 ≤ c ∧ c ≤ 4294967295) (h4 : I64C d) : (forwardT ⟨a, b, c, d, p⟩).length ≤ 250 := by
  have a1 := numT_len h1
  have a2 := numT_len h2
  have a3 := addrT_len h3
  have a4 := numT_len h4
  unfold forwardT
  cases p
  · simp only [List.length_append, List.length_cons, List.length_nil]
    simp
    omega
  · simp only [List.length_append, List.length_cons, List.length_nil]
    simp
    omega
set_option maxRecDepth 100000 in
set_option maxHeartbeats 8000000 in
theorem cfwT15 (f : Fw) (hr : RngFw f) (h1 : I64C f.proto) (h2 : I64C f.port) (h3 : I64C f.to) (w : World) (ht : Tb w) : Calls Tryz.prog 18 #[fwV f] w fun e w' => (∃ s : ByteArray, e = .returned (.string s) ∧ txB s = forwardT f ++ [10] ∧ s.size ≤ 251) ∧ Below w.heap.size w w' := by
  obtain ⟨i0, hi, hz0, hz1, hz2⟩ := info_parts info_str
  have y0 : Below w.heap.size w (w.alloc (oFw f)) := (Below.refl _ _).alloc (Nat.le_refl _) _
  have hb := Bxo.made w 40 (fwL f)
  obtain ⟨proto, port, addr, to_, proxy⟩ := f
  have HA : Hid (0 ≤ addr ∧ addr ≤ 4294967295) := Go.Lib.hid hr.addr
  have HI1 : Hid (I64C proto) := Go.Lib.hid h1
  have HI2 : Hid (I64C port) := Go.Lib.hid h2
  have HI3 : Hid (I64C to_) := Go.Lib.hid h3
  have HT := Go.Lib.hid (ht.at y0)
  clear hr ht h1 h2 h3
  go_enter Tryz.func18, Tryz.ntmps18
  go_upto_region 1 with fail
  generalize w.alloc (oFw ⟨proto, port, addr, to_, proxy⟩) = W at *
  generalize hgs : w.heap.size = g at hb ⊢
  have HB := Go.Lib.hid hb
  clear hb
  try simp only [Act.put, List.setIfInBounds_toArray, List.set_cons_zero, List.set_cons_succ]
  refine wp_region_held_drew (S := fun Y => Below W.heap.size W Y) (by kernel_rfl) ?_ (fun hHeld => ?_)
  · exact below_drew (Below.refl _ _)
  refine wpAnyH_take (i := 0) (oi := ⟨some 4, _, _, _, _, _⟩) (v := ?_) rfl (by kernel_rfl) (by kernel_rfl) (by kernel_rfl) (fun _ _ _ h => h) (Or.inl ⟨by rfl, ?_⟩) (by assumption) ?_
  rotate_left
  · intro w hSw; (try dsimp only at hSw); go_simp; (try with_reducible rfl)
  try simp only [Act.put, List.setIfInBounds_toArray, List.set_cons_zero, List.set_cons_succ]
  refine wpAnyH_take (i := 1) (oi := ⟨some 5, _, _, _, _, _⟩) (v := ?_) rfl (by kernel_rfl) (by kernel_rfl) (by kernel_rfl) (fun _ _ _ h => h) (Or.inl ⟨by rfl, ?_⟩) (by assumption) ?_
  rotate_left
  · intro w hSw; have c0 := (HB.out.keep hSw HB.out.lt).cell 0 rfl; dsimp only at c0; (try dsimp only at hSw); go_simp; (try with_reducible rfl)
  try simp only [Act.put, List.setIfInBounds_toArray, List.set_cons_zero, List.set_cons_succ]
  refine wpAnyH_take (i := 3) (oi := ⟨some 7, _, _, _, _, _⟩) (v := ?_) rfl (by kernel_rfl) (by kernel_rfl) (by kernel_rfl) (fun _ _ _ h => h) (Or.inl ⟨by rfl, ?_⟩) (by assumption) ?_
  rotate_left
  · intro w hSw; (try dsimp only at hSw); go_simp; (try with_reducible rfl)
  try simp only [Act.put, List.setIfInBounds_toArray, List.set_cons_zero, List.set_cons_succ]
  refine wpAnyH_take (i := 4) (oi := ⟨some 8, _, _, _, _, _⟩) (v := ?_) rfl (by kernel_rfl) (by kernel_rfl) (by kernel_rfl) (fun _ _ _ h => h) (Or.inl ⟨by rfl, ?_⟩) (by assumption) ?_
  rotate_left
  · intro w hSw; have c1 := (HB.out.keep hSw HB.out.lt).cell 1 rfl; dsimp only at c1; (try dsimp only at hSw); go_simp; (try with_reducible rfl)
  try simp only [Act.put, List.setIfInBounds_toArray, List.set_cons_zero, List.set_cons_succ]
  refine wpAnyH_take (i := 6) (oi := ⟨some 10, _, _, _, _, _⟩) (v := ?_) rfl (by kernel_rfl) (by kernel_rfl) (by kernel_rfl) (fun _ _ _ h => h) (Or.inl ⟨by rfl, ?_⟩) (by assumption) ?_
  rotate_left
  · intro w hSw; (try dsimp only at hSw); go_simp; (try with_reducible rfl)
  try simp only [Act.put, List.setIfInBounds_toArray, List.set_cons_zero, List.set_cons_succ]
  refine wpAnyH_take (i := 7) (oi := ⟨some 11, _, _, _, _, _⟩) (v := ?_) rfl (by kernel_rfl) (by kernel_rfl) (by kernel_rfl) (fun _ _ _ h => h) (Or.inl ⟨by rfl, ?_⟩) (by assumption) ?_
  rotate_left
  · intro w hSw; have c2 := (HB.out.keep hSw HB.out.lt).cell 2 rfl; dsimp only at c2; (try dsimp only at hSw); go_simp; (try with_reducible rfl)
  try simp only [Act.put, List.setIfInBounds_toArray, List.set_cons_zero, List.set_cons_succ]
  refine wpAnyH_take (i := 9) (oi := ⟨some 13, _, _, _, _, _⟩) (v := ?_) rfl (by kernel_rfl) (by kernel_rfl) (by kernel_rfl) (fun _ _ _ h => h) (Or.inl ⟨by rfl, ?_⟩) (by assumption) ?_
  rotate_left
  · intro w hSw; (try dsimp only at hSw); go_simp; (try with_reducible rfl)
  try simp only [Act.put, List.setIfInBounds_toArray, List.set_cons_zero, List.set_cons_succ]
  refine wpAnyH_take (i := 10) (oi := ⟨some 14, _, _, _, _, _⟩) (v := ?_) rfl (by kernel_rfl) (by kernel_rfl) (by kernel_rfl) (fun _ _ _ h => h) (Or.inl ⟨by rfl, ?_⟩) (by assumption) ?_
  rotate_left
  · intro w hSw; have c3 := (HB.out.keep hSw HB.out.lt).cell 3 rfl; dsimp only at c3; (try dsimp only at hSw); go_simp; (try with_reducible rfl)
  try simp only [Act.put, List.setIfInBounds_toArray, List.set_cons_zero, List.set_cons_succ]
  refine wpAnyH_ready (rs := [2]) (by kernel_rfl) (by simp) (AllReadyH.cons (o := ⟨some 6, _, _, _, _, _⟩) rfl (fun Kc hKc => ?_) AllReadyH.nil)
  go_simp
  go_at_call 15; refine (citoa15 proto HI1.out _ (HT.out.at hHeld)).mono ?_; rintro e w9 ⟨⟨n0, rfl, hn0⟩, yw9⟩; dsimp only
  refine hKc.out _ _ (hHeld.trans (yw9.mono hHeld.size)) (fun hHeld => ?_)
  clear hKc Kc
  try simp only [Act.put, List.setIfInBounds_toArray, List.set_cons_zero, List.set_cons_succ]
  refine wpAnyH_ready (rs := [5]) (by kernel_rfl) (by simp) (AllReadyH.cons (o := ⟨some 9, _, _, _, _, _⟩) rfl (fun Kc hKc => ?_) AllReadyH.nil)
  go_simp
  go_at_call 15; refine (citoa15 port HI2.out _ (HT.out.at hHeld)).mono ?_; rintro e wa ⟨⟨n1, rfl, hn1⟩, ywa⟩; dsimp only
  refine hKc.out _ _ (hHeld.trans (ywa.mono hHeld.size)) (fun hHeld => ?_)
  clear hKc Kc
  try simp only [Act.put, List.setIfInBounds_toArray, List.set_cons_zero, List.set_cons_succ]
  refine wpAnyH_ready (rs := [8]) (by kernel_rfl) (by simp) (AllReadyH.cons (o := ⟨some 12, _, _, _, _, _⟩) rfl (fun Kc hKc => ?_) AllReadyH.nil)
  go_simp
  go_at_call 17; refine (caddrT15 addr HA.out _ (HT.out.at hHeld)).mono ?_; rintro e wb ⟨⟨n2, rfl, hn2, zn2⟩, ywb⟩; dsimp only
  refine hKc.out _ _ (hHeld.trans (ywb.mono hHeld.size)) (fun hHeld => ?_)
  clear hKc Kc
  try simp only [Act.put, List.setIfInBounds_toArray, List.set_cons_zero, List.set_cons_succ]
  refine wpAnyH_ready (rs := [11]) (by kernel_rfl) (by simp) (AllReadyH.cons (o := ⟨some 15, _, _, _, _, _⟩) rfl (fun Kc hKc => ?_) AllReadyH.nil)
  go_simp
  go_at_call 15; refine (citoa15 to_ HI3.out _ (HT.out.at hHeld)).mono ?_; rintro e wc ⟨⟨n3, rfl, hn3⟩, ywc⟩; dsimp only
  refine hKc.out _ _ (hHeld.trans (ywc.mono hHeld.size)) (fun hHeld => ?_)
  clear hKc Kc
  try simp only [Act.put, List.setIfInBounds_toArray, List.set_cons_zero, List.set_cons_succ]
  refine wpAnyH_ready (rs := [12]) (by kernel_rfl) (by simp) (AllReadyH.cons (o := ⟨some 16, _, _, _, _, _⟩) rfl (fun Kc hKc => ?_) AllReadyH.nil)
  go_simp
  have yB : Below wc.heap.size wc (wc.alloc (.cells #[.string { data := #[102, 111, 114, 119, 97, 114, 100] }, .string n0, .string n1, .string n2, .string n3] 9)) := (Below.refl _ _).alloc (Nat.le_refl _) _; have HOWN : Hid ((wc.alloc (.cells #[.string { data := #[102, 111, 114, 119, 97, 114, 100] }, .string n0, .string n1, .string n2, .string n3] 9)).ownsRow W.heap.size 9 1 (.slice (some ⟨wc.heap.size, 0, none⟩) 5 5) 5 (([{ data := #[102, 111, 114, 119, 97, 114, 100] }, n0, n1, n2, n3] : List ByteArray).map Value.string)) := Go.Lib.hid (own_new wc W.heap.size [{ data := #[102, 111, 114, 119, 97, 114, 100] }, n0, n1, n2, n3] 9 5 rfl (by omega) hHeld.size); generalize hgw : wc.heap.size = g5 at HOWN ⊢; generalize wc.alloc (.cells #[.string { data := #[102, 111, 114, 119, 97, 114, 100] }, .string n0, .string n1, .string n2, .string n3] 9) = wB at *
  refine hKc.out _ _ (hHeld.trans (yB.mono hHeld.size)) (fun hHeld => ?_)
  clear hKc Kc
  try simp only [Act.put, List.setIfInBounds_toArray, List.set_cons_zero, List.set_cons_succ]
  refine wpAnyH_take (i := 13) (oi := ⟨some 3, _, _, _, _, _⟩) (v := ?_) rfl (by kernel_rfl) (by kernel_rfl) (by kernel_rfl) (fun _ _ _ h => h) (Or.inl ⟨by rfl, ?_⟩) (by assumption) ?_
  rotate_left
  · intro w hSw; (try dsimp only at hSw); go_simp; (try with_reducible rfl)
  try simp only [Act.put, List.setIfInBounds_toArray, List.set_cons_zero, List.set_cons_succ]
  refine wpAnyH_done (by kernel_rfl) ?_ _
  have yq := hHeld
  clear hHeld
  have x2 := y0.trans (yq.mono y0.size)
  have HWD := Go.Lib.hid (show [txB { data := #[102, 111, 114, 119, 97, 114, 100] }, txB n0, txB n1, txB n2, txB n3] = [kForward, numT proto, numT port, addrT addr, numT to_] by rw [hn0, hn1, hn2, hn3]; rfl)
  have c4 := (HB.out.keep yq HB.out.lt).cell 4 rfl
  dsimp only at c4
  cases proxy
  · obtain ⟨g6, e6, hg, hl, hcp, hc⟩ := sts_own HOWN.out (by omega)
    injection e6 with e6
    injection e6 with e6
    subst e6
    have HC := Go.Lib.hid hc
    clear hc
    go_wp2_with (go_at_call 13; refine (crowz15 _ 5 5 [{ data := #[102, 111, 114, 119, 97, 114, 100] }, n0, n1, n2, n3] rfl _ HC.out hg (by omega) (by omega) (forwardT ⟨proto, port, addr, to_, false⟩) (by show rowT [txB { data := #[102, 111, 114, 119, 97, 114, 100] }, txB n0, txB n1, txB n2, txB n3] = _; rw [HWD.out]; exact row_fw proto port addr to_) (by have := fwT_len (p := false) HI1.out HI2.out HA.out HI3.out; omega)).mono ?_; rintro e we ⟨⟨s9, rfl, hs9, zs9⟩, ye⟩; dsimp only)
    go_ret
    exact ⟨⟨_, rfl, hs9, by have := fwT_len (p := false) HI1.out HI2.out HA.out HI3.out; omega⟩, by have q := x2.trans (ye.mono x2.size); first | exact q | (rw [hgs] at q; exact q)⟩
  · have yqs := yq.size
    have hown := HOWN.out
    go_wp2_with (first
      | (go_at_call 13; fail)
      | (at_builtin; refine wpList_append_own _ rfl _ _ 73 rfl W.heap.size 9 i0 (.string ⟨#[]⟩) 1 16 Tryz.underlying73 hi hz0 hz1 hz2 rfl (by decide) _ _ _ rfl (hown.alloc _) ⟨wB.heap.size, 0, none⟩ 1 1 [.string { data := #[112, 114, 111, 120, 121] }] rfl rfl ?c1 ?c2 ?c3 ?c4 ?c5 ?_))
    case c1 =>
      intro j u hj
      match j, hj with
      | 0, hj => simp at hj; subst hj; simp [Addr.add]
    case c2 => intro u hu; simp at hu; subst hu; rfl
    case c3 => unfold maxLen; omega
    case c4 => omega
    case c5 => simp; omega
    intro v1 w1 hown1 hg1 _
    have yB1 : Below W.heap.size W w1 := (yq.alloc yqs _).grown hg1 (by simp; omega) (fun q hq => (hown.lt q hq).1)
    obtain ⟨A1, c1, rfl⟩ : ∃ A1 c1, v1 = .slice A1 6 c1 := by
      rcases hown1.2 with ⟨hv, hz⟩ | ⟨g, cap, cur, hv, _⟩
      · exact absurd hz (by decide)
      · exact ⟨_, _, hv⟩
    have hown2 : w1.ownsRow W.heap.size 9 1 (.slice A1 6 c1) 6 (([{ data := #[102, 111, 114, 119, 97, 114, 100] }, n0, n1, n2, n3, { data := #[112, 114, 111, 120, 121] }] : List ByteArray).map Value.string) := hown1
    obtain ⟨g6, rfl, hg, hl, hcp, hc⟩ := sts_own hown2 (by omega)
    have HC := Go.Lib.hid hc
    clear hc
    have x3 := y0.trans (yB1.mono y0.size)
    go_wp2_with (go_at_call 13; refine (crowz15 g6 c1 6 [{ data := #[102, 111, 114, 119, 97, 114, 100] }, n0, n1, n2, n3, { data := #[112, 114, 111, 120, 121] }] rfl _ HC.out hg (by omega) hcp (forwardT ⟨proto, port, addr, to_, true⟩) (by show rowT ([txB { data := #[102, 111, 114, 119, 97, 114, 100] }, txB n0, txB n1, txB n2, txB n3] ++ [kProxy]) = _; rw [HWD.out]; exact row_fwp proto port addr to_) (by have := fwT_len (p := true) HI1.out HI2.out HA.out HI3.out; omega)).mono ?_; rintro e we ⟨⟨s9, rfl, hs9, zs9⟩, ye⟩; dsimp only)
    go_ret
    exact ⟨⟨_, rfl, hs9, by have := fwT_len (p := true) HI1.out HI2.out HA.out HI3.out; omega⟩, by have q := x3.trans (ye.mono x3.size); first | exact q | (rw [hgs] at q; exact q)⟩

end Go.Proofs.YtoghcefamoefpaaGreatDoor
