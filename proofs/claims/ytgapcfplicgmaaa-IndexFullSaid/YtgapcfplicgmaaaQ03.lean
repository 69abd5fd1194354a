/- Lemmas, several texts in one. -/
import Derived.Test.YtgapcfplicgmaaaQ02
/- Contracts of the document's own answers for package index: seek. -/
namespace Go.Proofs.Ytgapcfplicgmaaa
open Go.ChangeShapes Go.WideShapes Go.ChangeAt Go.RowKit
set_option linter.unusedVariables false
set_option linter.unusedSimpArgs false

theorem hash_rng (t : Tp) (s : Int) : 0 ≤ hashT t s ∧ hashT t s < 4294967296 := by
  show 0 ≤ hashS _ _ ∧ hashS _ _ < _
  unfold hashS
  omega
/-- a cell's key among its cells. -/
theorem key_cells {Y : World} {ad : Addr} {y : Cl} (h : ∀ j v, (clL y)[j]? = some v → Y.cell? (ad.add j) = some v) : ∀ j v, (tpL y.key)[j]? = some v → Y.cell? ((ad.add 1).add j) = some v := fun j v hj => by
  rw [add_add]
  refine h (1 + j) v ?_
  have h5 : j < 5 := by have := (List.getElem?_eq_some_iff.1 hj).1; simpa using this
  match j, h5 with
  | 0, _ => exact hj
  | 1, _ => exact hj
  | 2, _ => exact hj
  | 3, _ => exact hj
  | 4, _ => exact hj
/-- where a search ends, and what it answers. -/
def seekI (l : List Cl) (k : Tp) : Int := if farC l k < l.length then (seekP l k : Nat) else -1
set_option maxRecDepth 100000 in
set_option maxHeartbeats 8000000 in
theorem rseek10 (l : List Cl) (A : Option Addr) (c : Nat) (k : Tp) (rk : RngTp k) (w : World) (h : CsAt w l A c) (h0 : 0 < l.length) (hbig : l.length ≤ 1024) (q : Int) (hq : seekI l k = q) :
    Calls Try.prog 24 #[.slice A l.length c, tpV k] w fun e w' => e = .returned (.int .i64 q) ∧ Below w.heap.size w w' := by
  have HQ := Go.Lib.hid hq
  have y0 : Below w.heap.size w (w.alloc (oTp k)) := (Below.refl _ _).alloc (Nat.le_refl _) _
  have h1 := Bxo.made w 25 (tpL k)
  have HC := Go.Lib.hid (h.at y0)
  have hlen := h.len
  have hcap := h.cap
  obtain ⟨r0, r1⟩ := hash_rng k 0
  obtain ⟨hs, hhs⟩ : ∃ hs, hashT k 0 = hs := ⟨_, rfl⟩
  have HH : Hid (hs % (l.length : Int) = (homeC k l.length : Nat)) := Go.Lib.hid (by
    unfold homeC
    rw [hhs]
    rw [hhs] at r0
    obtain ⟨n, rfl⟩ : ∃ n : Nat, hs = (n : Int) := ⟨hs.toNat, by omega⟩
    exact (Int.natCast_emod n l.length).symm)
  rw [hhs] at r0 r1
  have HHS := Go.Lib.hid hhs
  have hom := homeC_lt k h0
  have RK := Go.Lib.hid rk
  clear hq h hhs rk
  go_enter Try.func24, Try.ntmps24
  go_upto_region 1 with fail
  generalize w.alloc (oTp k) = W at *
  have HK := Go.Lib.hid h1
  clear h1
  have cv : IntKind.i64.wrap hs = hs := IntWalk.i64_in _ (by omega)
  have em : Int.tmod hs (l.length : Int) = (homeC k l.length : Nat) := by rw [Int.tmod_eq_emod_of_nonneg r0]; exact HH.out
  have hl0 : ¬ l.length = 0 := by omega
  generalize hom_ : homeC k l.length = hm at *
  have ew : IntKind.i64.wrap (Int.tmod hs (l.length : Int)) = (hm : Nat) := by rw [em]; exact IntWalk.i64_in _ (by omega)
  have ew2 : IntKind.i64.wrap ((hm : Nat) : Int) = (hm : Nat) := IntWalk.i64_in _ (by omega)
  go_upto_region 2 with (first
    | (refine wpList_load_box rfl 25 _ rfl w.heap.size rfl (tpL k) _ HK.out Try.underlying25 rfl info_tp ?_)
    | (go_at_call 33; refine (rhash k RK.out 0 W hs HHS.out).mono ?_; rintro e w1 ⟨rfl, y1⟩; have HK := Go.Lib.hid (HK.out.keep y1 HK.out.lt); have HC := Go.Lib.hid (HC.out.at y1); have x0 := y0.trans (y1.mono y0.size); dsimp only))
  clear cv em ew HHS HH
  go_wp2_with fail
  go_loopw [6] (fun i wr => ∃ j : Nat, j ≤ l.length ∧ i = .int .i64 j ∧ (∀ t, t < j → stopC l k ((hm + t) % l.length) = false) ∧ Below w1.heap.size w1 wr) (fun i _ => l.length - (intOf i).toNat)
  case atStart => exact ⟨0, by omega, rfl, fun t ht => by omega, Below.refl _ _⟩
  case round =>
    rename World => wo
    obtain ⟨i, hi, rfl, hgo, x1⟩ := hrel
    have HGO := Go.Lib.hid hgo
    clear hgo
    have ya := x0.trans (x1.mono x0.size)
    by_cases hlt : i < l.length
    · obtain ⟨p, hp⟩ : ∃ p, (hm + i) % l.length = p := ⟨_, rfl⟩
      have hpl : p < l.length := by rw [← hp]; exact Nat.mod_lt _ h0
      obtain ⟨ad, rfl, hcell⟩ := HC.out.cell hpl
      obtain ⟨y, hy⟩ : ∃ y, atC l p = y := ⟨_, rfl⟩
      rw [hy] at hcell
      have HY := Go.Lib.hid hy
      have i1 : (0 : Int) ≤ (i : Int) := by omega
      have i2 : (i : Int) < (l.length : Int) := by omega
      have e1 : IntKind.i64.wrap ((hm : Int) + (i : Int)) = (hm : Int) + (i : Int) := IntWalk.i64_in _ (by omega)
      have e2 : Int.tmod ((hm : Int) + (i : Int)) (l.length : Int) = (p : Nat) := by rw [Int.tmod_eq_emod_of_nonneg (by omega), ← hp, Int.natCast_emod, Int.natCast_add]
      have e3 : IntKind.i64.wrap (Int.tmod ((hm : Int) + (i : Int)) (l.length : Int)) = (p : Nat) := by rw [e2]; exact IntWalk.i64_in _ (by omega)
      have e4 : IntKind.i64.wrap ((p : Nat) : Int) = (p : Nat) := IntWalk.i64_in _ (by omega)
      have p1 : (0 : Int) ≤ (p : Int) := by omega
      have p2 : (p : Int) < (l.length : Int) := by omega
      have HPP := Go.Lib.hid hp
      have HK := Go.Lib.hid (HK.out.keep x1 HK.out.lt)
      have hW : Below w1.heap.size w1 wo := x1
      clear hy hp
      go_upto_region 6 with fail
      have HK0 := HK
      have HR : Hid (stopC l k p = true → Ending.returned (.int .i64 (p : Nat)) = .returned (.int .i64 q)) := Go.Lib.hid (fun hst => by
        have hf : farC l k = i := far_is hlt (by rw [hom_, HPP.out]; exact hst) (fun t ht => by rw [hom_]; exact HGO.out t ht)
        rw [← HQ.out]; unfold seekI; rw [hf, if_pos hlt]; unfold seekP; rw [hf, hom_, HPP.out])
      have HN : Hid (stopC l k p = false → ∀ t, t < i + 1 → stopC l k ((hm + t) % l.length) = false) := Go.Lib.hid (fun hst t ht => by
        by_cases h' : t < i
        · exact HGO.out t h'
        · rw [show t = i by omega, HPP.out]; exact hst)
      cases hus : y.used
      · have HR := Go.Lib.hid (HR.out (by unfold stopC; rw [HY.out, hus]; rfl))
        clear HN
        try simp only [Act.put, List.setIfInBounds_toArray, List.set_cons_zero, List.set_cons_succ]
        refine wp_region_held_drew (S := fun Y => Below wo.heap.size wo Y) (by kernel_rfl) ?_ (fun hHeld => ?_)
        · exact below_drew (Below.refl _ _)
        refine wpAnyH_take (i := 0) (oi := ⟨some 26, _, _, _, _, _⟩) (v := ?_) rfl (by kernel_rfl) (by kernel_rfl) (by kernel_rfl) (fun _ _ _ h => h) (Or.inl ⟨by rfl, ?_⟩) (by assumption) ?_
        rotate_left
        · intro w hSw; (try dsimp only at hSw); go_simp; (try with_reducible rfl)
        try simp only [Act.put, List.setIfInBounds_toArray, List.set_cons_zero, List.set_cons_succ]
        refine wpAnyH_take (i := 1) (oi := ⟨some 27, _, _, _, _, _⟩) (v := ?_) rfl (by kernel_rfl) (by kernel_rfl) (by kernel_rfl) (fun _ _ _ h => h) (Or.inl ⟨by rfl, ?_⟩) (by assumption) ?_
        rotate_left
        · intro w hSw; (try dsimp only at hSw); go_simp; (try with_reducible rfl)
        try simp only [Act.put, List.setIfInBounds_toArray, List.set_cons_zero, List.set_cons_succ]
        refine wpAnyH_take (i := 2) (oi := ⟨some 28, _, _, _, _, _⟩) (v := ?_) rfl (by kernel_rfl) (by kernel_rfl) (by kernel_rfl) (fun _ _ _ h => h) (Or.inl ⟨by rfl, ?_⟩) (by assumption) ?_
        rotate_left
        · intro w hSw; (try dsimp only at hSw); go_simp; (try with_reducible rfl)
        try simp only [Act.put, List.setIfInBounds_toArray, List.set_cons_zero, List.set_cons_succ]
        refine wpAnyH_take (i := 3) (oi := ⟨some 29, _, _, _, _, _⟩) (v := ?_) rfl (by kernel_rfl) (by kernel_rfl) (by kernel_rfl) (fun _ _ _ h => h) (Or.inl ⟨by rfl, ?_⟩) (by assumption) ?_
        rotate_left
        · intro w hSw; (try dsimp only at hSw); go_simp; (try with_reducible rfl)
        try simp only [Act.put, List.setIfInBounds_toArray, List.set_cons_zero, List.set_cons_succ]
        refine wpAnyH_take (i := 4) (oi := ⟨some 30, _, _, _, _, _⟩) (v := ?_) rfl (by kernel_rfl) (by kernel_rfl) (by kernel_rfl) (fun _ _ _ h => h) (Or.inl ⟨by rfl, ?_⟩) (by assumption) ?_
        rotate_left
        · intro w hSw; have zc := (hcell _ (hW.trans (hSw.mono hW.size))) 0 _ rfl; rw [add_add, Nat.add_zero, hus] at zc; (try dsimp only at hSw); go_simp; (try with_reducible rfl)
        try simp only [Act.put, List.setIfInBounds_toArray, List.set_cons_zero, List.set_cons_succ]
        refine wpAnyH_take (i := 5) (oi := ⟨some 31, _, _, _, _, _⟩) (v := ?_) rfl (by kernel_rfl) (by kernel_rfl) (by kernel_rfl) (fun _ _ _ h => h) (Or.inl ⟨by rfl, ?_⟩) (by assumption) ?_
        rotate_left
        · intro w hSw; (try dsimp only at hSw); go_simp; (try with_reducible rfl)
        try simp only [Act.put, List.setIfInBounds_toArray, List.set_cons_zero, List.set_cons_succ]
        refine wpAnyH_take (i := 6) (oi := ⟨some 32, _, _, _, _, _⟩) (v := ?_) rfl (by kernel_rfl) (by kernel_rfl) (by kernel_rfl) (fun _ _ _ h => h) (Or.inl ⟨by rfl, ?_⟩) (by assumption) ?_
        rotate_left
        · intro w hSw; (try dsimp only at hSw); go_simp; (try with_reducible rfl)
        try simp only [Act.put, List.setIfInBounds_toArray, List.set_cons_zero, List.set_cons_succ]
        refine wpAnyH_take (i := 7) (oi := ⟨some 33, _, _, _, _, _⟩) (v := undef) rfl (by kernel_rfl) (by kernel_rfl) (by kernel_rfl) (fun _ _ _ h => h) (Or.inr ⟨by rfl, rfl⟩) (by assumption) ?_
        try simp only [Act.put, List.setIfInBounds_toArray, List.set_cons_zero, List.set_cons_succ]
        refine wpAnyH_take (i := 8) (oi := ⟨some 34, _, _, _, _, _⟩) (v := undef) rfl (by kernel_rfl) (by kernel_rfl) (by kernel_rfl) (fun _ _ _ h => h) (Or.inr ⟨by rfl, rfl⟩) (by assumption) ?_
        try simp only [Act.put, List.setIfInBounds_toArray, List.set_cons_zero, List.set_cons_succ]
        refine wpAnyH_take (i := 9) (oi := ⟨some 35, _, _, _, _, _⟩) (v := undef) rfl (by kernel_rfl) (by kernel_rfl) (by kernel_rfl) (fun _ _ _ h => h) (Or.inr ⟨by rfl, rfl⟩) (by assumption) ?_
        try simp only [Act.put, List.setIfInBounds_toArray, List.set_cons_zero, List.set_cons_succ]
        refine wpAnyH_take (i := 10) (oi := ⟨some 36, _, _, _, _, _⟩) (v := undef) rfl (by kernel_rfl) (by kernel_rfl) (by kernel_rfl) (fun _ _ _ h => h) (Or.inr ⟨by rfl, rfl⟩) (by assumption) ?_
        try simp only [Act.put, List.setIfInBounds_toArray, List.set_cons_zero, List.set_cons_succ]
        refine wpAnyH_take (i := 11) (oi := ⟨some 37, _, _, _, _, _⟩) (v := undef) rfl (by kernel_rfl) (by kernel_rfl) (by kernel_rfl) (fun _ _ _ h => h) (Or.inr ⟨by rfl, rfl⟩) (by assumption) ?_
        try simp only [Act.put, List.setIfInBounds_toArray, List.set_cons_zero, List.set_cons_succ]
        refine wpAnyH_take (i := 12) (oi := ⟨some 38, _, _, _, _, _⟩) (v := undef) rfl (by kernel_rfl) (by kernel_rfl) (by kernel_rfl) (fun _ _ _ h => h) (Or.inr ⟨by rfl, rfl⟩) (by assumption) ?_
        try simp only [Act.put, List.setIfInBounds_toArray, List.set_cons_zero, List.set_cons_succ]
        refine wpAnyH_take (i := 13) (oi := ⟨some 39, _, _, _, _, _⟩) (v := undef) rfl (by kernel_rfl) (by kernel_rfl) (by kernel_rfl) (fun _ _ _ h => h) (Or.inr ⟨by rfl, rfl⟩) (by assumption) ?_
        try simp only [Act.put, List.setIfInBounds_toArray, List.set_cons_zero, List.set_cons_succ]
        refine wpAnyH_take (i := 14) (oi := ⟨some 40, _, _, _, _, _⟩) (v := ?_) rfl (by kernel_rfl) (by kernel_rfl) (by kernel_rfl) (fun _ _ _ h => h) (Or.inl ⟨by rfl, ?_⟩) (by assumption) ?_
        rotate_left
        · intro w hSw; (try dsimp only at hSw); go_simp; (try with_reducible rfl)
        try simp only [Act.put, List.setIfInBounds_toArray, List.set_cons_zero, List.set_cons_succ]
        refine wpAnyH_done (by kernel_rfl) ?_ _
        have yq := hHeld
        clear hHeld
        go_wp2
        go_ret
        exact ⟨HR.out, ya.trans (yq.mono ya.size)⟩
      · cases hke : sameTp y.key k
        · have HN := Go.Lib.hid (HN.out (by unfold stopC; rw [HY.out, hus, hke]; rfl))
          have eqv := fun W => (eqTp y.key k W).trans (by rw [hke])
          clear HR
          try simp only [Act.put, List.setIfInBounds_toArray, List.set_cons_zero, List.set_cons_succ]
          refine wp_region_held_drew (S := fun Y => Below wo.heap.size wo Y) (by kernel_rfl) ?_ (fun hHeld => ?_)
          · exact below_drew (Below.refl _ _)
          refine wpAnyH_take (i := 0) (oi := ⟨some 26, _, _, _, _, _⟩) (v := ?_) rfl (by kernel_rfl) (by kernel_rfl) (by kernel_rfl) (fun _ _ _ h => h) (Or.inl ⟨by rfl, ?_⟩) (by assumption) ?_
          rotate_left
          · intro w hSw; (try dsimp only at hSw); go_simp; (try with_reducible rfl)
          try simp only [Act.put, List.setIfInBounds_toArray, List.set_cons_zero, List.set_cons_succ]
          refine wpAnyH_take (i := 1) (oi := ⟨some 27, _, _, _, _, _⟩) (v := ?_) rfl (by kernel_rfl) (by kernel_rfl) (by kernel_rfl) (fun _ _ _ h => h) (Or.inl ⟨by rfl, ?_⟩) (by assumption) ?_
          rotate_left
          · intro w hSw; (try dsimp only at hSw); go_simp; (try with_reducible rfl)
          try simp only [Act.put, List.setIfInBounds_toArray, List.set_cons_zero, List.set_cons_succ]
          refine wpAnyH_take (i := 2) (oi := ⟨some 28, _, _, _, _, _⟩) (v := ?_) rfl (by kernel_rfl) (by kernel_rfl) (by kernel_rfl) (fun _ _ _ h => h) (Or.inl ⟨by rfl, ?_⟩) (by assumption) ?_
          rotate_left
          · intro w hSw; (try dsimp only at hSw); go_simp; (try with_reducible rfl)
          try simp only [Act.put, List.setIfInBounds_toArray, List.set_cons_zero, List.set_cons_succ]
          refine wpAnyH_take (i := 3) (oi := ⟨some 29, _, _, _, _, _⟩) (v := ?_) rfl (by kernel_rfl) (by kernel_rfl) (by kernel_rfl) (fun _ _ _ h => h) (Or.inl ⟨by rfl, ?_⟩) (by assumption) ?_
          rotate_left
          · intro w hSw; (try dsimp only at hSw); go_simp; (try with_reducible rfl)
          try simp only [Act.put, List.setIfInBounds_toArray, List.set_cons_zero, List.set_cons_succ]
          refine wpAnyH_take (i := 4) (oi := ⟨some 30, _, _, _, _, _⟩) (v := ?_) rfl (by kernel_rfl) (by kernel_rfl) (by kernel_rfl) (fun _ _ _ h => h) (Or.inl ⟨by rfl, ?_⟩) (by assumption) ?_
          rotate_left
          · intro w hSw; have zc := (hcell _ (hW.trans (hSw.mono hW.size))) 0 _ rfl; rw [add_add, Nat.add_zero, hus] at zc; (try dsimp only at hSw); go_simp; (try with_reducible rfl)
          try simp only [Act.put, List.setIfInBounds_toArray, List.set_cons_zero, List.set_cons_succ]
          refine wpAnyH_take (i := 5) (oi := ⟨some 31, _, _, _, _, _⟩) (v := ?_) rfl (by kernel_rfl) (by kernel_rfl) (by kernel_rfl) (fun _ _ _ h => h) (Or.inl ⟨by rfl, ?_⟩) (by assumption) ?_
          rotate_left
          · intro w hSw; (try dsimp only at hSw); go_simp; (try with_reducible rfl)
          try simp only [Act.put, List.setIfInBounds_toArray, List.set_cons_zero, List.set_cons_succ]
          refine wpAnyH_take (i := 6) (oi := ⟨some 32, _, _, _, _, _⟩) (v := ?_) rfl (by kernel_rfl) (by kernel_rfl) (by kernel_rfl) (fun _ _ _ h => h) (Or.inl ⟨by rfl, ?_⟩) (by assumption) ?_
          rotate_left
          · intro w hSw; (try dsimp only at hSw); go_simp; (try with_reducible rfl)
          try simp only [Act.put, List.setIfInBounds_toArray, List.set_cons_zero, List.set_cons_succ]
          refine wpAnyH_take (i := 7) (oi := ⟨some 33, _, _, _, _, _⟩) (v := ?_) rfl (by kernel_rfl) (by kernel_rfl) (by kernel_rfl) (fun _ _ _ h => h) (Or.inl ⟨by rfl, ?_⟩) (by assumption) ?_
          rotate_left
          · intro w hSw; (try dsimp only at hSw); go_simp; (try with_reducible rfl)
          try simp only [Act.put, List.setIfInBounds_toArray, List.set_cons_zero, List.set_cons_succ]
          refine wpAnyH_take (i := 8) (oi := ⟨some 34, _, _, _, _, _⟩) (v := ?_) rfl (by kernel_rfl) (by kernel_rfl) (by kernel_rfl) (fun _ _ _ h => h) (Or.inl ⟨by rfl, ?_⟩) (by assumption) ?_
          rotate_left
          · intro w hSw; (try dsimp only at hSw); go_simp; (try with_reducible rfl)
          try simp only [Act.put, List.setIfInBounds_toArray, List.set_cons_zero, List.set_cons_succ]
          refine wpAnyH_take (i := 9) (oi := ⟨some 35, _, _, _, _, _⟩) (v := ?_) rfl (by kernel_rfl) (by kernel_rfl) (by kernel_rfl) (fun _ _ _ h => h) (Or.inl ⟨by rfl, ?_⟩) (by assumption) ?_
          rotate_left
          · intro w hSw; (try dsimp only at hSw); go_simp; (try with_reducible rfl)
          try simp only [Act.put, List.setIfInBounds_toArray, List.set_cons_zero, List.set_cons_succ]
          refine wpAnyH_take (i := 10) (oi := ⟨some 36, _, _, _, _, _⟩) (v := ?_) rfl (by kernel_rfl) (by kernel_rfl) (by kernel_rfl) (fun _ _ _ h => h) (Or.inl ⟨by rfl, ?_⟩) (by assumption) ?_
          rotate_left
          · intro w hSw; (try dsimp only at hSw); go_simp; (try with_reducible rfl)
          try simp only [Act.put, List.setIfInBounds_toArray, List.set_cons_zero, List.set_cons_succ]
          refine wpAnyH_take (i := 11) (oi := ⟨some 37, _, _, _, _, _⟩) (v := (tpV y.key)) rfl (by kernel_rfl) (by kernel_rfl) (by kernel_rfl) (fun _ _ _ h => h) (yieldsIf_load_at (by rfl) 25 _ rfl ((ad.add (p * 7)).add 1) rfl (tpL y.key) _ (fun Y h => key_cells (hcell Y (hW.trans (h.mono hW.size)))) Try.underlying25 rfl info_tp) (by assumption) ?_
          try simp only [Act.put, List.setIfInBounds_toArray, List.set_cons_zero, List.set_cons_succ]
          refine wpAnyH_take (i := 12) (oi := ⟨some 38, _, _, _, _, _⟩) (v := (tpV k)) rfl (by kernel_rfl) (by kernel_rfl) (by kernel_rfl) (fun _ _ _ h => h) (yieldsIf_load_at (by rfl) 25 _ rfl ⟨w.heap.size, 0, none⟩ rfl (tpL k) _ (fun Y h => (HK.out.keep h HK.out.lt).at) Try.underlying25 rfl info_tp) (by assumption) ?_
          try simp only [Act.put, List.setIfInBounds_toArray, List.set_cons_zero, List.set_cons_succ]
          refine wpAnyH_take (i := 13) (oi := ⟨some 39, _, _, _, _, _⟩) (v := ?_) rfl (by kernel_rfl) (by kernel_rfl) (by kernel_rfl) (fun _ _ _ h => h) (Or.inl ⟨by rfl, ?_⟩) (by assumption) ?_
          rotate_left
          · intro w hSw; (try dsimp only at hSw); go_simp; (try with_reducible rfl)
          try simp only [Act.put, List.setIfInBounds_toArray, List.set_cons_zero, List.set_cons_succ]
          refine wpAnyH_take (i := 14) (oi := ⟨some 40, _, _, _, _, _⟩) (v := ?_) rfl (by kernel_rfl) (by kernel_rfl) (by kernel_rfl) (fun _ _ _ h => h) (Or.inl ⟨by rfl, ?_⟩) (by assumption) ?_
          rotate_left
          · intro w hSw; (try dsimp only at hSw); go_simp; (try with_reducible rfl)
          try simp only [Act.put, List.setIfInBounds_toArray, List.set_cons_zero, List.set_cons_succ]
          refine wpAnyH_done (by kernel_rfl) ?_ _
          have yq := hHeld
          clear hHeld
          go_wp2
          go_round
          case rel => exact ⟨i + 1, by omega, by go_num, HN.out, x1.trans (yq.mono x1.size)⟩
          case measure => simp [intOf]; omega
        · have HR := Go.Lib.hid (HR.out (by unfold stopC; rw [HY.out, hus, hke]; rfl))
          have eqv := fun W => (eqTp y.key k W).trans (by rw [hke])
          clear HN
          try simp only [Act.put, List.setIfInBounds_toArray, List.set_cons_zero, List.set_cons_succ]
          refine wp_region_held_drew (S := fun Y => Below wo.heap.size wo Y) (by kernel_rfl) ?_ (fun hHeld => ?_)
          · exact below_drew (Below.refl _ _)
          refine wpAnyH_take (i := 0) (oi := ⟨some 26, _, _, _, _, _⟩) (v := ?_) rfl (by kernel_rfl) (by kernel_rfl) (by kernel_rfl) (fun _ _ _ h => h) (Or.inl ⟨by rfl, ?_⟩) (by assumption) ?_
          rotate_left
          · intro w hSw; (try dsimp only at hSw); go_simp; (try with_reducible rfl)
          try simp only [Act.put, List.setIfInBounds_toArray, List.set_cons_zero, List.set_cons_succ]
          refine wpAnyH_take (i := 1) (oi := ⟨some 27, _, _, _, _, _⟩) (v := ?_) rfl (by kernel_rfl) (by kernel_rfl) (by kernel_rfl) (fun _ _ _ h => h) (Or.inl ⟨by rfl, ?_⟩) (by assumption) ?_
          rotate_left
          · intro w hSw; (try dsimp only at hSw); go_simp; (try with_reducible rfl)
          try simp only [Act.put, List.setIfInBounds_toArray, List.set_cons_zero, List.set_cons_succ]
          refine wpAnyH_take (i := 2) (oi := ⟨some 28, _, _, _, _, _⟩) (v := ?_) rfl (by kernel_rfl) (by kernel_rfl) (by kernel_rfl) (fun _ _ _ h => h) (Or.inl ⟨by rfl, ?_⟩) (by assumption) ?_
          rotate_left
          · intro w hSw; (try dsimp only at hSw); go_simp; (try with_reducible rfl)
          try simp only [Act.put, List.setIfInBounds_toArray, List.set_cons_zero, List.set_cons_succ]
          refine wpAnyH_take (i := 3) (oi := ⟨some 29, _, _, _, _, _⟩) (v := ?_) rfl (by kernel_rfl) (by kernel_rfl) (by kernel_rfl) (fun _ _ _ h => h) (Or.inl ⟨by rfl, ?_⟩) (by assumption) ?_
          rotate_left
          · intro w hSw; (try dsimp only at hSw); go_simp; (try with_reducible rfl)
          try simp only [Act.put, List.setIfInBounds_toArray, List.set_cons_zero, List.set_cons_succ]
          refine wpAnyH_take (i := 4) (oi := ⟨some 30, _, _, _, _, _⟩) (v := ?_) rfl (by kernel_rfl) (by kernel_rfl) (by kernel_rfl) (fun _ _ _ h => h) (Or.inl ⟨by rfl, ?_⟩) (by assumption) ?_
          rotate_left
          · intro w hSw; have zc := (hcell _ (hW.trans (hSw.mono hW.size))) 0 _ rfl; rw [add_add, Nat.add_zero, hus] at zc; (try dsimp only at hSw); go_simp; (try with_reducible rfl)
          try simp only [Act.put, List.setIfInBounds_toArray, List.set_cons_zero, List.set_cons_succ]
          refine wpAnyH_take (i := 5) (oi := ⟨some 31, _, _, _, _, _⟩) (v := ?_) rfl (by kernel_rfl) (by kernel_rfl) (by kernel_rfl) (fun _ _ _ h => h) (Or.inl ⟨by rfl, ?_⟩) (by assumption) ?_
          rotate_left
          · intro w hSw; (try dsimp only at hSw); go_simp; (try with_reducible rfl)
          try simp only [Act.put, List.setIfInBounds_toArray, List.set_cons_zero, List.set_cons_succ]
          refine wpAnyH_take (i := 6) (oi := ⟨some 32, _, _, _, _, _⟩) (v := ?_) rfl (by kernel_rfl) (by kernel_rfl) (by kernel_rfl) (fun _ _ _ h => h) (Or.inl ⟨by rfl, ?_⟩) (by assumption) ?_
          rotate_left
          · intro w hSw; (try dsimp only at hSw); go_simp; (try with_reducible rfl)
          try simp only [Act.put, List.setIfInBounds_toArray, List.set_cons_zero, List.set_cons_succ]
          refine wpAnyH_take (i := 7) (oi := ⟨some 33, _, _, _, _, _⟩) (v := ?_) rfl (by kernel_rfl) (by kernel_rfl) (by kernel_rfl) (fun _ _ _ h => h) (Or.inl ⟨by rfl, ?_⟩) (by assumption) ?_
          rotate_left
          · intro w hSw; (try dsimp only at hSw); go_simp; (try with_reducible rfl)
          try simp only [Act.put, List.setIfInBounds_toArray, List.set_cons_zero, List.set_cons_succ]
          refine wpAnyH_take (i := 8) (oi := ⟨some 34, _, _, _, _, _⟩) (v := ?_) rfl (by kernel_rfl) (by kernel_rfl) (by kernel_rfl) (fun _ _ _ h => h) (Or.inl ⟨by rfl, ?_⟩) (by assumption) ?_
          rotate_left
          · intro w hSw; (try dsimp only at hSw); go_simp; (try with_reducible rfl)
          try simp only [Act.put, List.setIfInBounds_toArray, List.set_cons_zero, List.set_cons_succ]
          refine wpAnyH_take (i := 9) (oi := ⟨some 35, _, _, _, _, _⟩) (v := ?_) rfl (by kernel_rfl) (by kernel_rfl) (by kernel_rfl) (fun _ _ _ h => h) (Or.inl ⟨by rfl, ?_⟩) (by assumption) ?_
          rotate_left
          · intro w hSw; (try dsimp only at hSw); go_simp; (try with_reducible rfl)
          try simp only [Act.put, List.setIfInBounds_toArray, List.set_cons_zero, List.set_cons_succ]
          refine wpAnyH_take (i := 10) (oi := ⟨some 36, _, _, _, _, _⟩) (v := ?_) rfl (by kernel_rfl) (by kernel_rfl) (by kernel_rfl) (fun _ _ _ h => h) (Or.inl ⟨by rfl, ?_⟩) (by assumption) ?_
          rotate_left
          · intro w hSw; (try dsimp only at hSw); go_simp; (try with_reducible rfl)
          try simp only [Act.put, List.setIfInBounds_toArray, List.set_cons_zero, List.set_cons_succ]
          refine wpAnyH_take (i := 11) (oi := ⟨some 37, _, _, _, _, _⟩) (v := (tpV y.key)) rfl (by kernel_rfl) (by kernel_rfl) (by kernel_rfl) (fun _ _ _ h => h) (yieldsIf_load_at (by rfl) 25 _ rfl ((ad.add (p * 7)).add 1) rfl (tpL y.key) _ (fun Y h => key_cells (hcell Y (hW.trans (h.mono hW.size)))) Try.underlying25 rfl info_tp) (by assumption) ?_
          try simp only [Act.put, List.setIfInBounds_toArray, List.set_cons_zero, List.set_cons_succ]
          refine wpAnyH_take (i := 12) (oi := ⟨some 38, _, _, _, _, _⟩) (v := (tpV k)) rfl (by kernel_rfl) (by kernel_rfl) (by kernel_rfl) (fun _ _ _ h => h) (yieldsIf_load_at (by rfl) 25 _ rfl ⟨w.heap.size, 0, none⟩ rfl (tpL k) _ (fun Y h => (HK.out.keep h HK.out.lt).at) Try.underlying25 rfl info_tp) (by assumption) ?_
          try simp only [Act.put, List.setIfInBounds_toArray, List.set_cons_zero, List.set_cons_succ]
          refine wpAnyH_take (i := 13) (oi := ⟨some 39, _, _, _, _, _⟩) (v := ?_) rfl (by kernel_rfl) (by kernel_rfl) (by kernel_rfl) (fun _ _ _ h => h) (Or.inl ⟨by rfl, ?_⟩) (by assumption) ?_
          rotate_left
          · intro w hSw; (try dsimp only at hSw); go_simp; (try with_reducible rfl)
          try simp only [Act.put, List.setIfInBounds_toArray, List.set_cons_zero, List.set_cons_succ]
          refine wpAnyH_take (i := 14) (oi := ⟨some 40, _, _, _, _, _⟩) (v := ?_) rfl (by kernel_rfl) (by kernel_rfl) (by kernel_rfl) (fun _ _ _ h => h) (Or.inl ⟨by rfl, ?_⟩) (by assumption) ?_
          rotate_left
          · intro w hSw; (try dsimp only at hSw); go_simp; (try with_reducible rfl)
          try simp only [Act.put, List.setIfInBounds_toArray, List.set_cons_zero, List.set_cons_succ]
          refine wpAnyH_done (by kernel_rfl) ?_ _
          have yq := hHeld
          clear hHeld
          go_wp2
          go_ret
          exact ⟨HR.out, ya.trans (yq.mono ya.size)⟩
    · obtain rfl : i = l.length := by omega
      have HR : Hid (q = -1) := Go.Lib.hid (by
        rw [← HQ.out]; unfold seekI
        rw [if_neg]
        intro hf
        have := far_stop hf
        unfold seekP at this
        rw [hom_, HGO.out _ hf] at this
        cases this)
      go_wp2
      go_ret
      exact ⟨by rw [HR.out]; rfl, ya⟩
end Go.Proofs.Ytgapcfplicgmaaa

/- Contracts of the document's own answers for package index: Right. -/
namespace Go.Proofs.Ytgapcfplicgmaaa
open Go.ChangeShapes Go.WideShapes Go.ChangeAt Go.RowKit
set_option linter.unusedVariables false
set_option linter.unusedSimpArgs false

set_option maxRecDepth 100000 in
set_option maxHeartbeats 16000000 in
theorem rright10 (l : List Cl) (A : Option Addr) (c : Nat) (w : World) (h : CsAt w l A c) (b : Bool) (hb : rightCB l = b) :
    Calls Try.prog 14 #[.slice A l.length c] w fun e w' => e = .returned (.bool b) ∧ Below w.heap.size w w' := by
  have HB := Go.Lib.hid hb
  have HC := Go.Lib.hid h
  have hlen := h.len
  have hcap := h.cap
  have HRNG := Go.Lib.hid h.rng
  clear hb h
  cases hs : sizeI (l.length : Nat)
  · have hb2 : b = false := by
      rw [← HB.out]; unfold rightCB
      rw [← sizeI_nat, hs]; rfl
    subst hb2
    clear HB
    go_enter Try.func14, Try.ntmps14
    go_wp2_with (go_at_call 22; refine (rsize10 _ _ false hs).mono ?_; rintro e w1 ⟨rfl, rfl⟩; dsimp only)
    go_ret
    exact ⟨rfl, Below.refl _ _⟩
  · have hsz := sizeC_pos (by rw [← sizeI_nat]; exact hs)
    have hS := Go.Lib.hid hs
    obtain ⟨u, hu⟩ : ∃ u, usedN l = u := ⟨_, rfl⟩
    have HU := Go.Lib.hid hu
    clear hu hs
    by_cases hroom : u < l.length
    · have h0 : 0 < l.length := by omega
      have hbig : l.length ≤ 1024 := hsz.2
      have hnle : ¬ l.length ≤ u := by omega
      have hnlz : ¬ (l.length : Int) ≤ (u : Int) := by omega
      clear hsz
      go_enter Try.func14, Try.ntmps14
      go_upto_region 3 with (first
        | (go_at_call 22; refine (rsize10 _ _ true hS.out).mono ?_; rintro e w1 ⟨rfl, rfl⟩; dsimp only)
        | (go_at_call 16; refine (rlen10 l A c _ HC.out u HU.out).mono ?_; rintro e w1 ⟨rfl, rfl⟩; dsimp only))
      go_wp2_with fail
      go_loopw [3] (fun x wr => ∃ j : Nat, j ≤ l.length ∧ x = .int .i64 j ∧ Hid (∀ t, t < j → cellOk l t = true) ∧ Below w.heap.size w wr) (fun x _ => l.length - (intOf x).toNat)
      case atStart => exact ⟨0, by omega, rfl, Go.Lib.hid (fun t ht => by omega), Below.refl _ _⟩
      case round =>
        rename World => wo
        obtain ⟨i, hi, rfl, HGO, ya⟩ := hrel
        by_cases hlt : i < l.length
        · obtain ⟨ad, rfl, hcell⟩ := HC.out.cell hlt
          obtain ⟨y, hy⟩ : ∃ y, atC l i = y := ⟨_, rfl⟩
          rw [hy] at hcell
          have HKR : Hid (RngTp y.key) := Go.Lib.hid (by rw [← hy]; exact HRNG.out i)
          have HCW := Go.Lib.hid (HC.out.at ya)
          have i1 : (0 : Int) ≤ (i : Int) := by omega
          have i2 : (i : Int) < (l.length : Int) := by omega
          have hbw := ya
          have hfar := far_lt y.key (show usedN l < l.length by rw [HU.out]; exact hroom)
          obtain ⟨sk, hsk⟩ : ∃ sk, seekI l y.key = sk := ⟨_, rfl⟩
          have HSK := Go.Lib.hid hsk
          have HSE : Hid (sk = (seekP l y.key : Nat)) := Go.Lib.hid (by rw [← hsk]; unfold seekI; rw [if_pos hfar])
          obtain ⟨rt, hrt⟩ : ∃ rt, rightT y.key = rt := ⟨_, rfl⟩
          have HRT := Go.Lib.hid hrt
          have HOK : Hid (cellOk l i = if y.used then (seekP l y.key == i && rt) else sameCl y cl0) := Go.Lib.hid (by unfold cellOk; rw [hy, hrt])
          have HN : Hid (cellOk l i = true → ∀ t, t < i + 1 → cellOk l t = true) := Go.Lib.hid (fun hok t ht => by
            by_cases h' : t < i
            · exact HGO.out t h'
            · rw [show t = i by omega]; exact hok)
          have HF : Hid (cellOk l i = false → b = false) := Go.Lib.hid (fun hok => by
            rw [← HB.out]; unfold rightCB
            have : (List.range l.length).all (cellOk l) = false := by
              rw [List.all_eq_false]
              exact ⟨i, List.mem_range.2 hlt, by rw [hok]; simp⟩
            rw [this]; simp)
          clear hy hsk hrt hfar HGO
          have d0 := hcell _ hbw 0 _ rfl
          rw [add_add, Nat.add_zero] at d0
          cases hus : y.used
          · rw [hus] at d0
            have d6 := at_off (k := i * 7) 6 (by have := hcell _ hbw 6 _ rfl; rwa [add_add] at this) (by omega)
            by_cases hn : y.num = 0
            · have tn : (y.num != 0) = false := by simp [hn]
              cases hke : sameTp y.key tp0
              · have hbf : b = false := HF.out (by rw [HOK.out, hus]; simp [sameCl, hke])
                have nek := fun W => (neTp y.key tp0 W).trans (by rw [hke])
                subst hbf
                clear HF HN HB
                go_wp2_with (refine wpList_load_at rfl 25 _ rfl ((ad.add (i * 7)).add 1) rfl (tpL y.key) _ (key_cells (hcell _ hbw)) Try.underlying25 rfl info_tp ?_)
                go_ret
                exact ⟨rfl, ya⟩
              · have nek := fun W => (neTp y.key tp0 W).trans (by rw [hke])
                have HN := Go.Lib.hid (HN.out (by rw [HOK.out, hus]; simp [sameCl, hke, hn, hus]))
                clear HF
                go_wp2_with (refine wpList_load_at rfl 25 _ rfl ((ad.add (i * 7)).add 1) rfl (tpL y.key) _ (key_cells (hcell _ hbw)) Try.underlying25 rfl info_tp ?_)
                go_round
                case rel => exact ⟨i + 1, by omega, by go_num, HN, ya⟩
                case measure => simp [intOf]; omega
            · have tn : (y.num != 0) = true := by simpa using hn
              have hbf : b = false := HF.out (by rw [HOK.out, hus]; simp [sameCl, hn])
              subst hbf
              clear HF HN HB
              go_wp2
              go_ret
              exact ⟨rfl, ya⟩
          · rw [hus] at d0
            by_cases hse : seekP l y.key = i
            · have ts : (sk != (i : Int)) = false := by rw [HSE.out, hse]; simp
              cases rt
              · have hbf : b = false := HF.out (by rw [HOK.out, hus]; simp)
                subst hbf
                clear HF HN HB
                go_wp2_with (first
                  | (refine wpList_load_at rfl 25 _ rfl ((ad.add (i * 7)).add 1) rfl (tpL y.key) _ (key_cells (hcell _ hbw)) Try.underlying25 rfl info_tp ?_)
                  | (go_at_call 24; refine (rseek10 l (some ad) c y.key HKR.out wo HCW.out h0 hbig sk HSK.out).mono ?_; rintro e ws ⟨rfl, ys⟩; have hbw := hbw.trans (ys.mono hbw.size); have xs := ya.trans (ys.mono ya.size); have d0 := hcell _ hbw 0 _ rfl; rw [add_add, Nat.add_zero, hus] at d0; dsimp only)
                  | (go_at_call 26; refine (rright9 y.key _ _ HRT.out).mono ?_; rintro e wr ⟨rfl, yr⟩; have hbw := hbw.trans (yr.mono hbw.size); have xr := xs.trans (yr.mono xs.size); have d0 := hcell _ hbw 0 _ rfl; rw [add_add, Nat.add_zero, hus] at d0; dsimp only))
                go_ret
                exact ⟨rfl, xr⟩
              · have HN := Go.Lib.hid (HN.out (by rw [HOK.out, hus]; simp [hse]))
                clear HF
                go_wp2_with (first
                  | (refine wpList_load_at rfl 25 _ rfl ((ad.add (i * 7)).add 1) rfl (tpL y.key) _ (key_cells (hcell _ hbw)) Try.underlying25 rfl info_tp ?_)
                  | (go_at_call 24; refine (rseek10 l (some ad) c y.key HKR.out wo HCW.out h0 hbig sk HSK.out).mono ?_; rintro e ws ⟨rfl, ys⟩; have hbw := hbw.trans (ys.mono hbw.size); have xs := ya.trans (ys.mono ya.size); have d0 := hcell _ hbw 0 _ rfl; rw [add_add, Nat.add_zero, hus] at d0; dsimp only)
                  | (go_at_call 26; refine (rright9 y.key _ _ HRT.out).mono ?_; rintro e wr ⟨rfl, yr⟩; have hbw := hbw.trans (yr.mono hbw.size); have xr := xs.trans (yr.mono xs.size); have d0 := hcell _ hbw 0 _ rfl; rw [add_add, Nat.add_zero, hus] at d0; dsimp only))
                go_round
                case rel => exact ⟨i + 1, by omega, by go_num, HN, xr⟩
                case measure => simp [intOf]; omega
            · have ts : (sk != (i : Int)) = true := by rw [HSE.out]; simp; omega
              have hbf : b = false := HF.out (by rw [HOK.out, hus]; simp [hse])
              subst hbf
              clear HF HN HB
              go_wp2_with (first
                | (refine wpList_load_at rfl 25 _ rfl ((ad.add (i * 7)).add 1) rfl (tpL y.key) _ (key_cells (hcell _ hbw)) Try.underlying25 rfl info_tp ?_)
                | (go_at_call 24; refine (rseek10 l (some ad) c y.key HKR.out wo HCW.out h0 hbig sk HSK.out).mono ?_; rintro e ws ⟨rfl, ys⟩; have hbw := hbw.trans (ys.mono hbw.size); have xs := ya.trans (ys.mono ya.size); have d0 := hcell _ hbw 0 _ rfl; rw [add_add, Nat.add_zero, hus] at d0; dsimp only))
              go_ret
              exact ⟨rfl, xs⟩
        · obtain rfl : i = l.length := by omega
          have hbt : b = true := by
            rw [← HB.out]; unfold rightCB
            rw [← sizeI_nat, hS.out, HU.out, decide_eq_true hroom]
            simp only [Bool.true_and]
            rw [List.all_eq_true]
            intro t ht
            exact HGO.out t (List.mem_range.1 ht)
          subst hbt
          clear HB
          go_wp2
          go_ret
          exact ⟨rfl, ya⟩
    · have hb2 : b = false := by
        rw [← HB.out]; unfold rightCB
        rw [HU.out, decide_eq_false hroom]; simp
      subst hb2
      clear HB
      have hge : (l.length : Int) ≤ (u : Int) := by omega
      go_enter Try.func14, Try.ntmps14
      go_wp2_with (first
        | (go_at_call 22; refine (rsize10 _ _ true hS.out).mono ?_; rintro e w1 ⟨rfl, rfl⟩; dsimp only)
        | (go_at_call 16; refine (rlen10 l A c _ HC.out u HU.out).mono ?_; rintro e w1 ⟨rfl, rfl⟩; dsimp only))
      go_ret
      exact ⟨rfl, Below.refl _ _⟩
end Go.Proofs.Ytgapcfplicgmaaa

/- Contracts of the document's own answers for package index: with, Get, Same. -/
namespace Go.Proofs.Ytgapcfplicgmaaa
open Go.ChangeShapes Go.WideShapes Go.ChangeAt Go.RowKit
set_option linter.unusedVariables false
set_option linter.unusedSimpArgs false

theorem cl_one1 (c : Cl) : ∀ u ∈ clL c, u.oneCell' = true := by simp [Value.oneCell']
theorem CsAt.set_rng {w : World} {l : List Cl} {A : Option Addr} {c : Nat} (h : CsAt w l A c) {p : Nat} (hp : p < l.length) {x : Cl} (rx : RngTp x.key) (i : Nat) : RngTp (atC (l.set p x) i).key := by
  rw [atC_set hp]
  split
  · exact rx
  · exact h.rng i
set_option maxRecDepth 100000 in
set_option maxHeartbeats 4000000 in
theorem rwith10 (l : List Cl) (A : Option Addr) (c : Nat) (p : Nat) (x : Cl) (w : World) (h : CsAt w l A c) (hp : p < l.length) (hbig : l.length ≤ 1024) (rx : RngTp x.key) :
    Calls Try.prog 29 #[.slice A l.length c, .int .i64 p, clV x] w fun e w' => ∃ A' c', e = .returned (.slice A' l.length c') ∧ CsAt w' (l.set p x) A' c' ∧ Below w.heap.size w w' := by
  have HC0 := Go.Lib.hid h
  have y0 : Below w.heap.size w (w.alloc (oCl x)) := (Below.refl _ _).alloc (Nat.le_refl _) _
  have h1 := Bxo.made w 52 (clL x)
  have HC := Go.Lib.hid (h.at y0)
  have hlen := h.len
  have hcap := h.cap
  have hnil := h.nil
  have hfl := flat_len Cl.L 7 Cl.len l
  have RX := Go.Lib.hid rx
  clear h rx
  obtain ⟨i0, hi, hz0, hz1, hz2⟩ := info_parts info_clz
  go_enter Try.func29, Try.ntmps29
  go_upto_region 1 with fail
  generalize w.alloc (oCl x) = W at *
  have HX := Go.Lib.hid h1
  clear h1
  go_upto_region 2 with (first
    | (at_builtin; refine wpList_copy_rdK rfl _ _ 22 rfl 52 i0 _ 7 56 Try.underlying22 hi hz0 hz1 hz2 rfl (by omega) rfl A l.length c (l.flatMap Cl.L) rfl hfl (fun e => ⟨hnil e, by have := hnil e; omega⟩) HC.out.rd (cl_one l) (by unfold maxLen; omega) (by omega) ?_; intro v1 w1 ho1 y1; obtain ⟨A1, c1, rfl⟩ := own_slice ho1; have HO1 := Go.Lib.hid ho1; have HX := Go.Lib.hid (HX.out.keep y1 HX.out.lt); clear ho1; dsimp only))
  obtain ⟨g, rfl, hgb⟩ : ∃ g, A1 = some ⟨g, 0, none⟩ ∧ W.heap.size ≤ g := by
    rcases own_addr HO1.out with ⟨_, hz, _⟩ | ⟨g, e, h1, _⟩
    · omega
    · exact ⟨g, e, h1⟩
  obtain ⟨cur, k1, k2, k3, k4, k5, k6, k7⟩ := own_open HO1.out
  have HK := Go.Lib.hid (And.intro k1 (And.intro k2 (And.intro k3 (And.intro k5 k6))))
  have hcur : p * 7 + 7 ≤ cur.length := by
    rw [k2]
    have : (p + 1) * 7 ≤ c1 * 7 := Nat.mul_le_mul_right 7 (by omega)
    omega
  have i1 : (0 : Int) ≤ (p : Int) := by omega
  have i2 : (p : Int) < (l.length : Int) := by omega
  clear k1 k2 k3 k4 k7 HC
  go_wp2_with (first
    | (refine wpList_load_box rfl 52 _ rfl w.heap.size rfl (clL x) _ HX.out Try.underlying52 rfl info_cl ?_)
    | (refine wpList_store_any rfl 52 _ _ rfl g (p * 7) 52 _ (clL x) _ rfl rfl rfl HK.out.1 info_cl hcur (cl_one1 x) ?_; intro w2 hb2 ho2; have HB2 := Go.Lib.hid hb2; clear hb2))
  obtain ⟨k1, k2, k3, k5, k6⟩ := HK.out
  have yF : Below w.heap.size w w2 := (y0.trans (y1.mono y0.size)).trans (ho2.below (Nat.le_trans y0.size hgb))
  have hs7 : p * 7 + (clL x).length ≤ l.length * 7 := by
    have : (p + 1) * 7 ≤ l.length * 7 := Nat.mul_le_mul_right 7 (by omega)
    show p * 7 + 7 ≤ _
    omega
  have hown := own_spl HO1.out k1 hs7 HB2.out
  have hsp : spl (l.flatMap Cl.L) (p * 7) (clL x) = (l.set p x).flatMap Cl.L := spl_flat Cl.L 7 Cl.len l p x hp
  rw [hsp] at hown
  have hcc := own_cap hown
  unfold maxLen at hcc
  refine bodyPost_ret (v := .slice (some ⟨g, 0, none⟩) l.length c1) ?_ rfl ⟨_, c1, rfl, ⟨by rw [List.length_set]; exact hcc.1, hcc.2, fun e => (by cases e), fun i => HC0.out.set_rng hp RX.out i, own_rd hown⟩, yF⟩
  simp [results, Try.results29, go_sem]
set_option maxRecDepth 100000 in
set_option maxHeartbeats 4000000 in
theorem rget10 (l : List Cl) (A : Option Addr) (c : Nat) (k : Tp) (rk : RngTp k) (w : World) (h : CsAt w l A c) (q : Int × Bool) (hq : getC l k = q) :
    Calls Try.prog 12 #[.slice A l.length c, tpV k] w fun e w' => e = .returned (.tuple #[.int .i64 q.1, .bool q.2]) ∧ Below w.heap.size w w' := by
  have y0 : Below w.heap.size w (w.alloc (oTp k)) := (Below.refl _ _).alloc (Nat.le_refl _) _
  have h1 := Bxo.made w 25 (tpL k)
  have HC := Go.Lib.hid (h.at y0)
  have hlen := h.len
  have hcap := h.cap
  clear h
  obtain ⟨b, hb⟩ : ∃ b, rightCB l = b := ⟨_, rfl⟩
  have HB := Go.Lib.hid hb
  cases b
  · have hq2 : q = (0, false) := by rw [← hq]; unfold getC; rw [hb]; rfl
    subst hq2
    clear hq hb
    go_enter Try.func12, Try.ntmps12
    go_upto_region 1 with fail
    generalize w.alloc (oTp k) = W at *
    go_wp2_with (go_at_call 14; refine (rright10 l A c W HC.out _ HB.out).mono ?_; rintro e w1 ⟨rfl, y1⟩; dsimp only)
    refine bodyPost_ret (v := .tuple #[.int .i64 0, .bool false]) ?_ rfl ⟨rfl, y0.trans (y1.mono y0.size)⟩
    simp [results, Try.results12, go_sem]
  · have R := (rightCB_iff l).1 hb
    have hsz := sizeC_pos R.size
    have hfar := far_lt k R.room
    have hsl := (R.seek k).1
    have HSI : Hid (seekI l k = (seekP l k : Nat)) := Go.Lib.hid (by unfold seekI; rw [if_pos hfar])
    obtain ⟨p, hp⟩ : ∃ p, seekP l k = p := ⟨_, rfl⟩
    rw [hp] at hsl HSI
    obtain ⟨ad, rfl, hcell⟩ := HC.out.cell hsl
    obtain ⟨y, hy⟩ : ∃ y, atC l p = y := ⟨_, rfl⟩
    rw [hy] at hcell
    have hq2 : q = (y.num, y.used) := by rw [← hq]; unfold getC; rw [hb, hp, hy]; rfl
    subst hq2
    clear hq hb R hfar hp hy
    have i1 : (0 : Int) ≤ (p : Int) := by omega
    have i2 : (p : Int) < (l.length : Int) := by omega
    go_enter Try.func12, Try.ntmps12
    go_upto_region 1 with fail
    generalize w.alloc (oTp k) = W at *
    have HK := Go.Lib.hid h1
    clear h1
    go_upto_region 4 with (first
      | (refine wpList_load_box rfl 25 _ rfl w.heap.size rfl (tpL k) _ HK.out Try.underlying25 rfl info_tp ?_)
      | (go_at_call 14; refine (rright10 l (some ad) c W HC.out _ HB.out).mono ?_; rintro e w1 ⟨rfl, y1⟩; have HK := Go.Lib.hid (HK.out.keep y1 HK.out.lt); dsimp only)
      | (go_at_call 24; refine (rseek10 l (some ad) c k rk w1 (HC.out.at y1) (by omega) hsz.2 _ HSI.out).mono ?_; rintro e w2 ⟨rfl, y2⟩; have y3 := y1.trans (y2.mono y1.size); dsimp only))
    have d0 := hcell _ y3 0 _ rfl
    rw [add_add, Nat.add_zero] at d0
    have d6 := at_off (k := p * 7) 6 (by have := hcell _ y3 6 _ rfl; rwa [add_add] at this) (by omega)
    clear hcell
    go_quiet (fail)
    go_wp2
    refine bodyPost_ret (v := .tuple #[.int .i64 y.num, .bool y.used]) ?_ rfl ⟨rfl, below_dn (y0.trans (y3.mono y0.size)) _⟩
    simp [results, Try.results12, go_sem]
end Go.Proofs.Ytgapcfplicgmaaa

/- Contracts of the document's own answers for package index: Put. -/
namespace Go.Proofs.Ytgapcfplicgmaaa
open Go.ChangeShapes Go.WideShapes Go.ChangeAt Go.RowKit
set_option linter.unusedVariables false
set_option linter.unusedSimpArgs false

/-- what Put and Del hand back. -/
def TabPost (w : World) (q : List Cl × Int) (e : Ending) (w' : World) : Prop := ∃ A c, e = .returned (.tuple #[.slice A q.1.length c, .int .i64 q.2]) ∧ CsAt w' q.1 A c ∧ Below w.heap.size w w'
theorem TabPost.of {w w' : World} {q : List Cl × Int} {l : List Cl} {f : Int} {A : Option Addr} {c : Nat} (hq : q = (l, f)) (hc : CsAt w' l A c) (y : Below w.heap.size w w') : TabPost w q (.returned (.tuple #[.slice A l.length c, .int .i64 f])) w' := by
  subst hq
  exact ⟨A, c, rfl, hc, y⟩
set_option maxRecDepth 100000 in
set_option maxHeartbeats 8000000 in
theorem rput10 (l : List Cl) (A : Option Addr) (c : Nat) (k : Tp) (n : Int) (rk : RngTp k) (w : World) (h : CsAt w l A c) (q : List Cl × Int) (hq : putC l k n = q) :
    Calls Try.prog 18 #[.slice A l.length c, tpV k, .int .i64 n] w (TabPost w q) := by
  have y0 : Below w.heap.size w (w.alloc (oTp k)) := (Below.refl _ _).alloc (Nat.le_refl _) _
  have h1 := Bxo.made w 25 (tpL k)
  have HC := Go.Lib.hid (h.at y0)
  have hlen := h.len
  have hcap := h.cap
  have HCw := Go.Lib.hid h
  clear h
  obtain ⟨b, hb⟩ : ∃ b, rightCB l = b := ⟨_, rfl⟩
  obtain ⟨t, ht⟩ : ∃ t, rightT k = t := ⟨_, rfl⟩
  have HB := Go.Lib.hid hb
  have HT := Go.Lib.hid ht
  cases b
  · have HE : Hid (q = (l, 1)) := Go.Lib.hid (by rw [← hq]; unfold putC; rw [hb]; simp)
    clear hq hb ht
    go_enter Try.func18, Try.ntmps18
    go_upto_region 1 with fail
    generalize w.alloc (oTp k) = W at *
    have HK := Go.Lib.hid h1
    clear h1
    go_wp2_with (first
      | (refine wpList_load_box rfl 25 _ rfl w.heap.size rfl (tpL k) _ HK.out Try.underlying25 rfl info_tp ?_)
      | (go_at_call 14; refine (rright10 l A c W HC.out _ HB.out).mono ?_; rintro e w1 ⟨rfl, y1⟩; have HK := Go.Lib.hid (HK.out.keep y1 HK.out.lt); have x1 := y0.trans (y1.mono y0.size); dsimp only))
    refine bodyPost_ret (v := .tuple #[.slice A l.length c, .int .i64 1]) ?_ rfl (TabPost.of HE.out (HCw.out.at x1) x1)
    simp [results, Try.results18, go_sem]
  · cases t
    · have HE : Hid (q = (l, 1)) := Go.Lib.hid (by rw [← hq]; unfold putC; rw [hb, ht]; simp)
      clear hq hb ht
      go_enter Try.func18, Try.ntmps18
      go_upto_region 1 with fail
      generalize w.alloc (oTp k) = W at *
      have HK := Go.Lib.hid h1
      clear h1
      go_wp2_with (first
      | (refine wpList_load_box rfl 25 _ rfl w.heap.size rfl (tpL k) _ HK.out Try.underlying25 rfl info_tp ?_)
      | (go_at_call 14; refine (rright10 l A c W HC.out _ HB.out).mono ?_; rintro e w1 ⟨rfl, y1⟩; have HK := Go.Lib.hid (HK.out.keep y1 HK.out.lt); have x1 := y0.trans (y1.mono y0.size); dsimp only)
      | (go_at_call 26; refine (rright9 k w1 _ HT.out).mono ?_; rintro e w2 ⟨rfl, y2⟩; have HK := Go.Lib.hid (HK.out.keep y2 HK.out.lt); have x2 := x1.trans (y2.mono x1.size); have z2 := y1.trans (y2.mono y1.size); dsimp only))
      refine bodyPost_ret (v := .tuple #[.slice A l.length c, .int .i64 1]) ?_ rfl (TabPost.of HE.out (HCw.out.at x2) x2)
      simp [results, Try.results18, go_sem]
    · have R := (rightCB_iff l).1 hb
      have hsz := sizeC_pos R.size
      have hfar := far_lt k R.room
      have hsl := (R.seek k).1
      have HSI : Hid (seekI l k = (seekP l k : Nat)) := Go.Lib.hid (by unfold seekI; rw [if_pos hfar])
      obtain ⟨p, hp⟩ : ∃ p, seekP l k = p := ⟨_, rfl⟩
      rw [hp] at hsl HSI
      obtain ⟨ad, rfl, hcell⟩ := HC.out.cell hsl
      obtain ⟨y, hy⟩ : ∃ y, atC l p = y := ⟨_, rfl⟩
      rw [hy] at hcell
      obtain ⟨u, hu⟩ : ∃ u, usedN l = u := ⟨_, rfl⟩
      have HU := Go.Lib.hid hu
      have hul : u < l.length := by rw [← hu]; exact R.room
      have i1 : (0 : Int) ≤ (p : Int) := by omega
      have i2 : (p : Int) < (l.length : Int) := by omega
      have hput : putC l k n = if y.used then (l, 10) else if l.length ≤ u + 1 then (l, 8) else (l.set p ⟨true, k, n⟩, 0) := by
        unfold putC; rw [hb, ht, hp, hy, hu]; rfl
      rw [hput] at hq
      have HQ := Go.Lib.hid hq
      clear hq hb ht R hfar hp hy hput hu
      go_enter Try.func18, Try.ntmps18
      go_upto_region 1 with fail
      generalize w.alloc (oTp k) = W at *
      have HK := Go.Lib.hid h1
      clear h1
      cases hus : y.used
      · by_cases hroom : l.length ≤ u + 1
        · have HE : Hid (q = (l, 8)) := Go.Lib.hid (by rw [← HQ.out, hus, if_neg (by simp), if_pos hroom])
          have hr2 : (l.length : Int) ≤ (u : Int) + 1 := by omega
          clear HQ
          go_wp2_with (first
      | (refine wpList_load_box rfl 25 _ rfl w.heap.size rfl (tpL k) _ HK.out Try.underlying25 rfl info_tp ?_)
      | (go_at_call 14; refine (rright10 l (some ad) c W HC.out _ HB.out).mono ?_; rintro e w1 ⟨rfl, y1⟩; have HK := Go.Lib.hid (HK.out.keep y1 HK.out.lt); have x1 := y0.trans (y1.mono y0.size); dsimp only)
      | (go_at_call 26; refine (rright9 k w1 _ HT.out).mono ?_; rintro e w2 ⟨rfl, y2⟩; have HK := Go.Lib.hid (HK.out.keep y2 HK.out.lt); have x2 := x1.trans (y2.mono x1.size); have z2 := y1.trans (y2.mono y1.size); dsimp only)
      | (go_at_call 24; refine (rseek10 l (some ad) c k rk w2 (HC.out.at z2) (by omega) hsz.2 _ HSI.out).mono ?_; rintro e w3 ⟨rfl, y3⟩; have HK := Go.Lib.hid (HK.out.keep y3 HK.out.lt); have x3 := x2.trans (y3.mono x2.size); have z3 := z2.trans (y3.mono z2.size); have d0 := hcell _ z3 0 _ rfl; rw [add_add, Nat.add_zero, hus] at d0; dsimp only)
      | (go_at_call 16; refine (rlen10 l (some ad) c w3 (HC.out.at z3) u HU.out).mono ?_; rintro e w4 ⟨rfl, rfl⟩; dsimp only))
          refine bodyPost_ret (v := .tuple #[.slice (some ad) l.length c, .int .i64 8]) ?_ rfl (TabPost.of HE.out (HCw.out.at x3) x3)
          simp [results, Try.results18, go_sem]
        · have HE : Hid (q = (l.set p ⟨true, k, n⟩, 0)) := Go.Lib.hid (by rw [← HQ.out, hus, if_neg (by simp), if_neg hroom])
          have hr2 : ¬ (l.length : Int) ≤ (u : Int) + 1 := by omega
          clear HQ
          go_wp2_with (first
      | (refine wpList_load_box rfl 25 _ rfl w.heap.size rfl (tpL k) _ HK.out Try.underlying25 rfl info_tp ?_)
      | (go_at_call 14; refine (rright10 l (some ad) c W HC.out _ HB.out).mono ?_; rintro e w1 ⟨rfl, y1⟩; have HK := Go.Lib.hid (HK.out.keep y1 HK.out.lt); have x1 := y0.trans (y1.mono y0.size); dsimp only)
      | (go_at_call 26; refine (rright9 k w1 _ HT.out).mono ?_; rintro e w2 ⟨rfl, y2⟩; have HK := Go.Lib.hid (HK.out.keep y2 HK.out.lt); have x2 := x1.trans (y2.mono x1.size); have z2 := y1.trans (y2.mono y1.size); dsimp only)
      | (go_at_call 24; refine (rseek10 l (some ad) c k rk w2 (HC.out.at z2) (by omega) hsz.2 _ HSI.out).mono ?_; rintro e w3 ⟨rfl, y3⟩; have HK := Go.Lib.hid (HK.out.keep y3 HK.out.lt); have x3 := x2.trans (y3.mono x2.size); have z3 := z2.trans (y3.mono z2.size); have d0 := hcell _ z3 0 _ rfl; rw [add_add, Nat.add_zero, hus] at d0; dsimp only)
      | (go_at_call 16; refine (rlen10 l (some ad) c w3 (HC.out.at z3) u HU.out).mono ?_; rintro e w4 ⟨rfl, rfl⟩; dsimp only)
      | (go_at_call 29; refine (rwith10 l (some ad) c p ⟨true, k, n⟩ w3 (HC.out.at z3) hsl hsz.2 rk).mono ?_; rintro e w5 ⟨A5, c5, rfl, hc5, y5⟩; have HC5 := Go.Lib.hid hc5; clear hc5; have x5 := x3.trans (y5.mono x3.size); dsimp only))
          refine bodyPost_ret (v := .tuple #[.slice A5 l.length c5, .int .i64 0]) ?_ rfl (by have h := TabPost.of HE.out HC5.out x5; rw [List.length_set] at h; exact h)
          simp [results, Try.results18, go_sem]
      · have HE : Hid (q = (l, 10)) := Go.Lib.hid (by rw [← HQ.out, hus]; rfl)
        clear HQ
        go_wp2_with (first
      | (refine wpList_load_box rfl 25 _ rfl w.heap.size rfl (tpL k) _ HK.out Try.underlying25 rfl info_tp ?_)
      | (go_at_call 14; refine (rright10 l (some ad) c W HC.out _ HB.out).mono ?_; rintro e w1 ⟨rfl, y1⟩; have HK := Go.Lib.hid (HK.out.keep y1 HK.out.lt); have x1 := y0.trans (y1.mono y0.size); dsimp only)
      | (go_at_call 26; refine (rright9 k w1 _ HT.out).mono ?_; rintro e w2 ⟨rfl, y2⟩; have HK := Go.Lib.hid (HK.out.keep y2 HK.out.lt); have x2 := x1.trans (y2.mono x1.size); have z2 := y1.trans (y2.mono y1.size); dsimp only)
      | (go_at_call 24; refine (rseek10 l (some ad) c k rk w2 (HC.out.at z2) (by omega) hsz.2 _ HSI.out).mono ?_; rintro e w3 ⟨rfl, y3⟩; have HK := Go.Lib.hid (HK.out.keep y3 HK.out.lt); have x3 := x2.trans (y3.mono x2.size); have z3 := z2.trans (y3.mono z2.size); have d0 := hcell _ z3 0 _ rfl; rw [add_add, Nat.add_zero, hus] at d0; dsimp only))
        refine bodyPost_ret (v := .tuple #[.slice (some ad) l.length c, .int .i64 10]) ?_ rfl (TabPost.of HE.out (HCw.out.at x3) x3)
        simp [results, Try.results18, go_sem]
end Go.Proofs.Ytgapcfplicgmaaa
