/- A wheel as a heap in a struct, its places in a map: Swap. -/
import Derived.Test.YtebmomanpkmloaaWheelG1
namespace Go.Proofs.Ytebmomanpkmloaa
open Go.ChangeShapes Go.WideShapes Go.ChangeAt Go.RowKit
set_option linter.unusedVariables false
set_option linter.unusedSimpArgs false

theorem gro_moves {b : Nat} {w w' : World} {F : Nat → Prop} (h : Gro b w w') (hb : F b) : Moves w w' F := ⟨h.os, h.tape, h.output, h.size, fun k hk hn => h.block k hk (fun e => hn (e ▸ hb))⟩
/-- what of a wheel's memory doesn't hang on its alarms' order. -/
structure GRo (g : Nat) (l : List Al) (F : Nat → Prop) (A : Option Addr) (mb : Nat) : Prop where
  blocks : ∀ b, F b ↔ (b = g ∨ b = mb ∨ blk A = some b)
  g1 : g ≠ mb
  g2 : blk A ≠ some g
  g3 : blk A ≠ some mb
  once : OnceA l
  rng : ∀ a ∈ l, 0 ≤ a.num ∧ a.num ≤ 2147483647
  size : l.length ≤ 256
theorem GR.o {w : World} {g : Nat} {l : List Al} {now : Int} {F : Nat → Prop} {A : Option Addr} {c mb : Nat} (h : GR w g l now F A c mb) : GRo g l F A mb := ⟨h.blocks, h.g1, h.g2, h.g3, h.once, h.rng, h.size⟩
theorem GRo.perm {g : Nat} {l l' : List Al} {F : Nat → Prop} {A : Option Addr} {mb : Nat} (h : GRo g l F A mb) (hp : l'.Perm l) : GRo g l' F A mb := ⟨h.blocks, h.g1, h.g2, h.g3, h.once.perm hp, fun a ha => h.rng a (hp.mem_iff.1 ha), by rw [hp.length_eq]; exact h.size⟩
theorem GR.mk' {w : World} {g : Nat} {l : List Al} {now : Int} {F : Nat → Prop} {A : Option Addr} {c mb n : Nat} (hn : l.length = n) (hb : Bxo w g 59 [.slice A n c, .map (some mb), .int .i64 now]) (hr : w.ownsRow 0 67 2 (.slice A n c) n (l.flatMap Al.L)) (hm : PmAt w mb (findH l) n) (h : GRo g l F A mb) : GR w g l now F A c mb := by
  subst hn
  exact ⟨hb, hr, hm, h.blocks, h.g1, h.g2, h.g3, h.once, h.rng, h.size⟩
theorem some_ne {r b : Nat} (h : (some r : Option Nat) ≠ some b) : r ≠ b := fun e => h (by rw [e])
set_option maxRecDepth 100000 in
set_option maxHeartbeats 8000000 in
theorem gswap {w : World} {g : Nat} {l : List Al} {now : Int} {F : Nat → Prop} {A : Option Addr} {c mb : Nat} (h : GR w g l now F A c mb) (i j : Nat) (hi : i < l.length) (hj : j < l.length) :
    Calls Try.prog 50 #[.pointer (some ⟨g, 0, none⟩), .int .i64 i, .int .i64 j] w fun e w' => e = .returned (.tuple #[]) ∧ GR w' g (swA l i j) now F A c mb ∧ Moves w w' F := by
  obtain ⟨r, rfl, hr, hci⟩ := h.cell hi
  obtain ⟨r', e', _, hcj⟩ := h.cell hj
  cases e'
  have HGR := Go.Lib.hid (h.o.perm (sw_perm hi hj))
  have hnc := (own_cap h.row).1
  have hsz := h.size
  have hgm := h.g1
  have hrg : r ≠ g := some_ne h.g2
  have hrm : r ≠ mb := some_ne h.g3
  have HF : Hid (F r ∧ F mb) := Go.Lib.hid ⟨(h.blocks r).2 (.inr (.inr rfl)), (h.blocks mb).2 (.inr (.inl rfl))⟩
  have hsw := find_sw h.once hi hj
  have hnx := (h.once.at_iff (atA l i).num i).2 ⟨hi, rfl⟩
  have hny := (h.once.at_iff (atA l j).num j).2 ⟨hj, rfl⟩
  have hrx := h.rng _ (List.getElem_mem hi)
  have hry := h.rng _ (List.getElem_mem hj)
  rw [← atA_get hi] at hrx
  rw [← atA_get hj] at hry
  have hat := sw_at hi hj
  have HSP1 : Hid (spl (l.flatMap Al.L) (i * 2) (alL (atA l j)) = (l.set i (atA l j)).flatMap Al.L) := Go.Lib.hid (spl_flat Al.L 2 Al.len l i (atA l j) hi)
  have HSP2 : Hid (spl ((l.set i (atA l j)).flatMap Al.L) (j * 2) (alL (atA l i)) = (swA l i j).flatMap Al.L) := Go.Lib.hid (spl_flat Al.L 2 Al.len (l.set i (atA l j)) j (atA l i) (by rw [List.length_set]; exact hj))
  have hfi := flat_get Al.L 2 Al.len (swA l i j) i 0 (by rw [sw_len]; exact hi) (by omega)
  have hfj := flat_get Al.L 2 Al.len (swA l i j) j 0 (by rw [sw_len]; exact hj) (by omega)
  rw [← atA_get (by rw [sw_len]; exact hi), hat i] at hfi
  rw [← atA_get (by rw [sw_len]; exact hj), hat j] at hfj
  rw [if_pos rfl] at hfj
  have hfi : ((swA l i j).flatMap Al.L)[i * 2]? = some (.int .i64 (atA l j).num) := by
    rw [Nat.add_zero] at hfi
    rw [hfi]
    by_cases e : j = i
    · rw [if_pos e, e]; rfl
    · rw [if_neg e, if_pos rfl]; rfl
  have hfj : ((swA l i j).flatMap Al.L)[j * 2]? = some (.int .i64 (atA l i).num) := by rw [Nat.add_zero] at hfj; rw [hfj]; rfl
  have HNL0 := sw_len l i j
  obtain ⟨n, hn⟩ : ∃ n, l.length = n := ⟨_, rfl⟩
  have HB : Hid (Bxo w g 59 [.slice (some ⟨r, 0, none⟩) n c, .map (some mb), .int .i64 now]) := Go.Lib.hid (by rw [← hn]; exact h.box)
  have HRW : Hid (w.ownsRow 0 67 2 (.slice (some ⟨r, 0, none⟩) n c) n (l.flatMap Al.L)) := Go.Lib.hid (by rw [← hn]; exact h.row)
  have HP2_ : PmAt w mb (findH l) n := by rw [← hn]; exact h.map
  have HP := Go.Lib.hid HP2_
  rw [hn] at hi hj hsz hnc HNL0
  have HNL := Go.Lib.hid HNL0
  obtain ⟨cur, k1, k2, _⟩ := own_open HRW.out
  have HD : Hid (Bxo w.drew r 67 cur) := Go.Lib.hid k1.drew
  have hi2 : i * 2 + (2 : Nat) ≤ cur.length := by rw [k2]; omega
  have hj2 : j * 2 + (2 : Nat) ≤ cur.length := by rw [k2]; omega
  obtain ⟨x, hx⟩ : ∃ x, atA l i = x := ⟨_, rfl⟩
  obtain ⟨y, hy⟩ : ∃ y, atA l j = y := ⟨_, rfl⟩
  rw [hx] at hci hnx hrx hfj
  rw [hy] at hcj hny hry hfi
  rw [hx, hy] at hsw
  rw [hy] at HSP1
  rw [hx, hy] at HSP2
  have HX := Go.Lib.hid hci
  have HY := Go.Lib.hid hcj
  have HAI := Go.Lib.hid hfi
  have HAJ := Go.Lib.hid hfj
  have HMP : Hid (findH (swA l i j) = putF (putF (findH l) y.num i) x.num j) := Go.Lib.hid (funext fun z => by
    rw [hsw z]
    rfl)
  have HFY : Hid ((if (findH l y.num).isSome then n else n + 1) = n) := Go.Lib.hid (by rw [hny]; rfl)
  have HFX : Hid ((if (putF (findH l) y.num i x.num).isSome then n else n + 1) = n) := Go.Lib.hid (by
    unfold putF
    by_cases e : x.num = y.num
    · rw [if_pos e]; rfl
    · rw [if_neg e, hnx]; rfl)
  have HWX : (Lit.int .i64 x.num).wf = true := wfI (by omega) (by omega)
  have HWY : (Lit.int .i64 y.num).wf = true := wfI (by omega) (by omega)
  have KX := Go.Lib.hid HWX
  have KY := Go.Lib.hid HWY
  have HC0 : Hid (∀ Y, Gro r w Y → Y.cell? ⟨g, 0, none⟩ = some (.slice (some ⟨r, 0, none⟩) n c)) := Go.Lib.hid (fun Y y => (HB.out.gro y (Ne.symm hrg)).cell 0 rfl)
  have i1 : (0 : Int) ≤ (i : Int) := by omega
  have i2 : (i : Int) < (n : Int) := by omega
  have j1 : (0 : Int) ≤ (j : Int) := by omega
  have j2 : (j : Int) < (n : Int) := by omega
  clear h hci hcj hsw hnx hny hrx hry hat hfi hfj hn k1 k2 hx hy HP2_ HNL0 HWX HWY
  go_enter Try.func50, Try.ntmps50
  go_upto_region 0 with fail
  try simp only [Act.put, List.setIfInBounds_toArray, List.set_cons_zero, List.set_cons_succ]
  refine wp_region_held_drew (S := fun Y => Gro r w Y) (by kernel_rfl) ?_ (fun hHeld => ?_)
  · exact (gro_below (below_drew (Below.refl _ _)))
  refine wpAnyH_take (i := 0) (oi := ⟨some 6, _, _, _, _, _⟩) (v := ?_) rfl (by kernel_rfl) (by kernel_rfl) (by kernel_rfl) (fun _ _ _ h => h) (Or.inl ⟨by rfl, ?_⟩) (by assumption) ?_
  rotate_left
  · intro w hSw; (try dsimp only at hSw); go_simp; (try with_reducible rfl)
  try simp only [Act.put, List.setIfInBounds_toArray, List.set_cons_zero, List.set_cons_succ]
  refine wpAnyH_take (i := 1) (oi := ⟨some 7, _, _, _, _, _⟩) (v := ?_) rfl (by kernel_rfl) (by kernel_rfl) (by kernel_rfl) (fun _ _ _ h => h) (Or.inl ⟨by rfl, ?_⟩) (by assumption) ?_
  rotate_left
  · intro w hSw; (try dsimp only at hSw); go_simp; (try with_reducible rfl)
  try simp only [Act.put, List.setIfInBounds_toArray, List.set_cons_zero, List.set_cons_succ]
  refine wpAnyH_take (i := 2) (oi := ⟨some 8, _, _, _, _, _⟩) (v := ?_) rfl (by kernel_rfl) (by kernel_rfl) (by kernel_rfl) (fun _ _ _ h => h) (Or.inl ⟨by rfl, ?_⟩) (by assumption) ?_
  rotate_left
  · intro w hSw; (try dsimp only at hSw); go_simp; (try with_reducible rfl)
  try simp only [Act.put, List.setIfInBounds_toArray, List.set_cons_zero, List.set_cons_succ]
  refine wpAnyH_take (i := 3) (oi := ⟨some 9, _, _, _, _, _⟩) (v := ?_) rfl (by kernel_rfl) (by kernel_rfl) (by kernel_rfl) (fun _ _ _ h => h) (Or.inl ⟨by rfl, ?_⟩) (by assumption) ?_
  rotate_left
  · intro w hSw; have zc := HC0.out _ hSw; (try dsimp only at hSw); go_simp; (try with_reducible rfl)
  try simp only [Act.put, List.setIfInBounds_toArray, List.set_cons_zero, List.set_cons_succ]
  refine wpAnyH_take (i := 4) (oi := ⟨some 10, _, _, _, _, _⟩) (v := ?_) rfl (by kernel_rfl) (by kernel_rfl) (by kernel_rfl) (fun _ _ _ h => h) (Or.inl ⟨by rfl, ?_⟩) (by assumption) ?_
  rotate_left
  · intro w hSw; (try dsimp only at hSw); go_simp; (try with_reducible rfl)
  try simp only [Act.put, List.setIfInBounds_toArray, List.set_cons_zero, List.set_cons_succ]
  refine wpAnyH_take (i := 5) (oi := ⟨some 11, _, _, _, _, _⟩) (v := ?_) rfl (by kernel_rfl) (by kernel_rfl) (by kernel_rfl) (fun _ _ _ h => h) (Or.inl ⟨by rfl, ?_⟩) (by assumption) ?_
  rotate_left
  · intro w hSw; (try dsimp only at hSw); go_simp; (try with_reducible rfl)
  try simp only [Act.put, List.setIfInBounds_toArray, List.set_cons_zero, List.set_cons_succ]
  refine wpAnyH_take (i := 6) (oi := ⟨some 12, _, _, _, _, _⟩) (v := ?_) rfl (by kernel_rfl) (by kernel_rfl) (by kernel_rfl) (fun _ _ _ h => h) (Or.inl ⟨by rfl, ?_⟩) (by assumption) ?_
  rotate_left
  · intro w hSw; (try dsimp only at hSw); go_simp; (try with_reducible rfl)
  try simp only [Act.put, List.setIfInBounds_toArray, List.set_cons_zero, List.set_cons_succ]
  refine wpAnyH_take (i := 7) (oi := ⟨some 13, _, _, _, _, _⟩) (v := ?_) rfl (by kernel_rfl) (by kernel_rfl) (by kernel_rfl) (fun _ _ _ h => h) (Or.inl ⟨by rfl, ?_⟩) (by assumption) ?_
  rotate_left
  · intro w hSw; (try dsimp only at hSw); go_simp; (try with_reducible rfl)
  try simp only [Act.put, List.setIfInBounds_toArray, List.set_cons_zero, List.set_cons_succ]
  refine wpAnyH_take (i := 8) (oi := ⟨some 14, _, _, _, _, _⟩) (v := ?_) rfl (by kernel_rfl) (by kernel_rfl) (by kernel_rfl) (fun _ _ _ h => h) (Or.inl ⟨by rfl, ?_⟩) (by assumption) ?_
  rotate_left
  · intro w hSw; have zc := HC0.out _ hSw; (try dsimp only at hSw); go_simp; (try with_reducible rfl)
  try simp only [Act.put, List.setIfInBounds_toArray, List.set_cons_zero, List.set_cons_succ]
  refine wpAnyH_take (i := 9) (oi := ⟨some 15, _, _, _, _, _⟩) (v := ?_) rfl (by kernel_rfl) (by kernel_rfl) (by kernel_rfl) (fun _ _ _ h => h) (Or.inl ⟨by rfl, ?_⟩) (by assumption) ?_
  rotate_left
  · intro w hSw; (try dsimp only at hSw); go_simp; (try with_reducible rfl)
  try simp only [Act.put, List.setIfInBounds_toArray, List.set_cons_zero, List.set_cons_succ]
  refine wpAnyH_take (i := 10) (oi := ⟨some 16, _, _, _, _, _⟩) (v := ?_) rfl (by kernel_rfl) (by kernel_rfl) (by kernel_rfl) (fun _ _ _ h => h) (Or.inl ⟨by rfl, ?_⟩) (by assumption) ?_
  rotate_left
  · intro w hSw; (try dsimp only at hSw); go_simp; (try with_reducible rfl)
  try simp only [Act.put, List.setIfInBounds_toArray, List.set_cons_zero, List.set_cons_succ]
  refine wpAnyH_take (i := 11) (oi := ⟨some 17, _, _, _, _, _⟩) (v := ?_) rfl (by kernel_rfl) (by kernel_rfl) (by kernel_rfl) (fun _ _ _ h => h) (Or.inl ⟨by rfl, ?_⟩) (by assumption) ?_
  rotate_left
  · intro w hSw; (try dsimp only at hSw); go_simp; (try with_reducible rfl)
  try simp only [Act.put, List.setIfInBounds_toArray, List.set_cons_zero, List.set_cons_succ]
  refine wpAnyH_take (i := 12) (oi := ⟨some 18, _, _, _, _, _⟩) (v := ?_) rfl (by kernel_rfl) (by kernel_rfl) (by kernel_rfl) (fun _ _ _ h => h) (Or.inl ⟨by rfl, ?_⟩) (by assumption) ?_
  rotate_left
  · intro w hSw; (try dsimp only at hSw); go_simp; (try with_reducible rfl)
  try simp only [Act.put, List.setIfInBounds_toArray, List.set_cons_zero, List.set_cons_succ]
  refine wpAnyH_take (i := 13) (oi := ⟨some 19, _, _, _, _, _⟩) (v := ?_) rfl (by kernel_rfl) (by kernel_rfl) (by kernel_rfl) (fun _ _ _ h => h) (Or.inl ⟨by rfl, ?_⟩) (by assumption) ?_
  rotate_left
  · intro w hSw; have zc := HC0.out _ hSw; (try dsimp only at hSw); go_simp; (try with_reducible rfl)
  try simp only [Act.put, List.setIfInBounds_toArray, List.set_cons_zero, List.set_cons_succ]
  refine wpAnyH_take (i := 14) (oi := ⟨some 20, _, _, _, _, _⟩) (v := ?_) rfl (by kernel_rfl) (by kernel_rfl) (by kernel_rfl) (fun _ _ _ h => h) (Or.inl ⟨by rfl, ?_⟩) (by assumption) ?_
  rotate_left
  · intro w hSw; (try dsimp only at hSw); go_simp; (try with_reducible rfl)
  try simp only [Act.put, List.setIfInBounds_toArray, List.set_cons_zero, List.set_cons_succ]
  refine wpAnyH_take (i := 15) (oi := ⟨some 21, _, _, _, _, _⟩) (v := ?_) rfl (by kernel_rfl) (by kernel_rfl) (by kernel_rfl) (fun _ _ _ h => h) (Or.inl ⟨by rfl, ?_⟩) (by assumption) ?_
  rotate_left
  · intro w hSw; (try dsimp only at hSw); go_simp; (try with_reducible rfl)
  try simp only [Act.put, List.setIfInBounds_toArray, List.set_cons_zero, List.set_cons_succ]
  refine wpAnyH_take (i := 17) (oi := ⟨some 23, _, _, _, _, _⟩) (v := ?_) rfl (by kernel_rfl) (by kernel_rfl) (by kernel_rfl) (fun _ _ _ h => h) (Or.inl ⟨by rfl, ?_⟩) (by assumption) ?_
  rotate_left
  · intro w hSw; (try dsimp only at hSw); go_simp; (try with_reducible rfl)
  try simp only [Act.put, List.setIfInBounds_toArray, List.set_cons_zero, List.set_cons_succ]
  refine wpAnyH_take (i := 18) (oi := ⟨some 24, _, _, _, _, _⟩) (v := ?_) rfl (by kernel_rfl) (by kernel_rfl) (by kernel_rfl) (fun _ _ _ h => h) (Or.inl ⟨by rfl, ?_⟩) (by assumption) ?_
  rotate_left
  · intro w hSw; (try dsimp only at hSw); go_simp; (try with_reducible rfl)
  try simp only [Act.put, List.setIfInBounds_toArray, List.set_cons_zero, List.set_cons_succ]
  refine wpAnyH_take (i := 19) (oi := ⟨some 25, _, _, _, _, _⟩) (v := ?_) rfl (by kernel_rfl) (by kernel_rfl) (by kernel_rfl) (fun _ _ _ h => h) (Or.inl ⟨by rfl, ?_⟩) (by assumption) ?_
  rotate_left
  · intro w hSw; (try dsimp only at hSw); go_simp; (try with_reducible rfl)
  try simp only [Act.put, List.setIfInBounds_toArray, List.set_cons_zero, List.set_cons_succ]
  refine wpAnyH_take (i := 20) (oi := ⟨some 26, _, _, _, _, _⟩) (v := ?_) rfl (by kernel_rfl) (by kernel_rfl) (by kernel_rfl) (fun _ _ _ h => h) (Or.inl ⟨by rfl, ?_⟩) (by assumption) ?_
  rotate_left
  · intro w hSw; have zc := HC0.out _ hSw; (try dsimp only at hSw); go_simp; (try with_reducible rfl)
  try simp only [Act.put, List.setIfInBounds_toArray, List.set_cons_zero, List.set_cons_succ]
  refine wpAnyH_take (i := 21) (oi := ⟨some 27, _, _, _, _, _⟩) (v := ?_) rfl (by kernel_rfl) (by kernel_rfl) (by kernel_rfl) (fun _ _ _ h => h) (Or.inl ⟨by rfl, ?_⟩) (by assumption) ?_
  rotate_left
  · intro w hSw; (try dsimp only at hSw); go_simp; (try with_reducible rfl)
  try simp only [Act.put, List.setIfInBounds_toArray, List.set_cons_zero, List.set_cons_succ]
  refine wpAnyH_take (i := 22) (oi := ⟨some 28, _, _, _, _, _⟩) (v := ?_) rfl (by kernel_rfl) (by kernel_rfl) (by kernel_rfl) (fun _ _ _ h => h) (Or.inl ⟨by rfl, ?_⟩) (by assumption) ?_
  rotate_left
  · intro w hSw; (try dsimp only at hSw); go_simp; (try with_reducible rfl)
  try simp only [Act.put, List.setIfInBounds_toArray, List.set_cons_zero, List.set_cons_succ]
  refine wpAnyH_ready (rs := [16, 23]) (by kernel_rfl) (by simp) (AllReadyH.cons (o := ⟨some 22, _, _, _, _, _⟩) rfl (fun Kc hKc => ?_) (AllReadyH.cons (o := ⟨some 29, _, _, _, _, _⟩) rfl (fun Kc hKc => ?_) AllReadyH.nil))
  ·
    rw [if_pos (by rfl)]
    refine step_load_at 67 _ rfl ⟨r, j * 2, none⟩ rfl (alL y) _ (HY.out _ rfl) Try.underlying67 rfl info_alg ?_
    refine hKc.out _ _ (hHeld) (fun hHeld => ?_)
    clear hKc Kc
    try simp only [Act.put, List.setIfInBounds_toArray, List.set_cons_zero, List.set_cons_succ]
    refine wpAnyH_ready (rs := [23]) (by kernel_rfl) (by simp) (AllReadyH.cons (o := ⟨some 29, _, _, _, _, _⟩) rfl (fun Kc hKc => ?_) AllReadyH.nil)
    rw [if_pos (by rfl)]
    refine step_load_at 67 _ rfl ⟨r, i * 2, none⟩ rfl (alL x) _ (HX.out _ rfl) Try.underlying67 rfl info_alg ?_
    refine hKc.out _ _ (hHeld) (fun hHeld => ?_)
    clear hKc Kc
    try simp only [Act.put, List.setIfInBounds_toArray, List.set_cons_zero, List.set_cons_succ]
    refine wpAnyH_take (i := 24) (oi := ⟨some 30, _, _, _, _, _⟩) (v := ?_) rfl (by kernel_rfl) (by kernel_rfl) (by kernel_rfl) (fun _ _ _ h => h) (Or.inl ⟨by rfl, ?_⟩) (by assumption) ?_
    rotate_left
    · intro w hSw; (try dsimp only at hSw); go_simp; (try with_reducible rfl)
    try simp only [Act.put, List.setIfInBounds_toArray, List.set_cons_zero, List.set_cons_succ]
    refine wpAnyH_ready (rs := [25]) (by kernel_rfl) (by simp) (AllReadyH.cons (o := ⟨none, _, _, _, _, _⟩) rfl (fun Kc hKc => ?_) AllReadyH.nil)
    rw [if_pos (by rfl)]
    refine step_store_any 67 _ _ rfl r (i * 2) 67 cur (alL y) _ rfl rfl rfl HD.out info_alg hi2 (by simp [Value.oneCell']) ?_; intro w1 hb1 ho1; have HB1 := Go.Lib.hid hb1; have HO1 := Go.Lib.hid ho1; clear hb1 ho1
    refine hKc.out _ _ (hHeld.trans HO1.out.gro) (fun hHeld => ?_)
    clear hKc Kc
    try simp only [Act.put, List.setIfInBounds_toArray, List.set_cons_zero, List.set_cons_succ]
    refine wpAnyH_take (i := 26) (oi := ⟨some 31, _, _, _, _, _⟩) (v := ?_) rfl (by kernel_rfl) (by kernel_rfl) (by kernel_rfl) (fun _ _ _ h => h) (Or.inl ⟨by rfl, ?_⟩) (by assumption) ?_
    rotate_left
    · intro w hSw; (try dsimp only at hSw); go_simp; (try with_reducible rfl)
    try simp only [Act.put, List.setIfInBounds_toArray, List.set_cons_zero, List.set_cons_succ]
    refine wpAnyH_ready (rs := [27]) (by kernel_rfl) (by simp) (AllReadyH.cons (o := ⟨none, _, _, _, _, _⟩) rfl (fun Kc hKc => ?_) AllReadyH.nil)
    rw [if_pos (by rfl)]
    refine step_store_any 67 _ _ rfl r (j * 2) 67 _ (alL x) _ rfl rfl rfl HB1.out info_alg (by rw [spl_length]; exact hj2) (by simp [Value.oneCell']) ?_; intro w2 hb2 ho2; have HB2 := Go.Lib.hid hb2; have HO2 := Go.Lib.hid ho2; clear hb2 ho2
    refine hKc.out _ _ (hHeld.trans HO2.out.gro) (fun hHeld => ?_)
    clear hKc Kc
    try simp only [Act.put, List.setIfInBounds_toArray, List.set_cons_zero, List.set_cons_succ]
    refine wpAnyH_done (by kernel_rfl) ?_ _
    have yq := hHeld
    clear hHeld
    have HG2 := Go.Lib.hid (HB.out.gro yq (Ne.symm hrg))
    have hro1 := own_spl (own_keep (w' := w.drew) HRW.out rfl) HD.out (by show i * 2 + 2 ≤ _; omega) HB1.out
    rw [HSP1.out] at hro1
    have hro2 := own_spl hro1 HB1.out (by show j * 2 + 2 ≤ _; omega) HB2.out
    rw [HSP2.out] at hro2
    have HR2 := Go.Lib.hid hro2
    have HP2 := Go.Lib.hid (HP.out.keep (yq.block mb HP.out.lt (Ne.symm hrm)))
    clear hro1 hro2
    have HM2 : Hid (∀ Y, Gro mb w2 Y → Y.cell? ⟨g, 1, none⟩ = some (.map (some mb))) := Go.Lib.hid (fun Y y => (HG2.out.gro y hgm).cell 1 rfl)
    have HZ2 : Hid (∀ Y, Gro mb w2 Y → Y.cell? ⟨g, 0, none⟩ = some (.slice (some ⟨r, 0, none⟩) n c)) := Go.Lib.hid (fun Y y => (HG2.out.gro y hgm).cell 0 rfl)
    have HN2 : Hid (∀ Y, Gro mb w2 Y → Y.cell? ⟨r, i * 2, none⟩ = some (.int .i64 y.num)) := Go.Lib.hid (fun Y y' => by
      have hk := own_keep (w' := Y) HR2.out (y'.block r (own_ltI HR2.out r rfl) hrm)
      rw [own_cells hk (i * 2) (by omega), HAI.out])
    go_upto_region 1 with fail
    try simp only [Act.put, List.setIfInBounds_toArray, List.set_cons_zero, List.set_cons_succ]
    refine wp_region_held_drew (S := fun Y => Gro mb w2 Y) (by kernel_rfl) ?_ (fun hHeld => ?_)
    · exact (gro_below (below_drew (Below.refl _ _)))
    refine wpAnyH_take (i := 0) (oi := ⟨some 32, _, _, _, _, _⟩) (v := ?_) rfl (by kernel_rfl) (by kernel_rfl) (by kernel_rfl) (fun _ _ _ h => h) (Or.inl ⟨by rfl, ?_⟩) (by assumption) ?_
    rotate_left
    · intro w hSw; (try dsimp only at hSw); go_simp; (try with_reducible rfl)
    try simp only [Act.put, List.setIfInBounds_toArray, List.set_cons_zero, List.set_cons_succ]
    refine wpAnyH_take (i := 1) (oi := ⟨some 33, _, _, _, _, _⟩) (v := ?_) rfl (by kernel_rfl) (by kernel_rfl) (by kernel_rfl) (fun _ _ _ h => h) (Or.inl ⟨by rfl, ?_⟩) (by assumption) ?_
    rotate_left
    · intro w hSw; (try dsimp only at hSw); go_simp; (try with_reducible rfl)
    try simp only [Act.put, List.setIfInBounds_toArray, List.set_cons_zero, List.set_cons_succ]
    refine wpAnyH_take (i := 2) (oi := ⟨some 34, _, _, _, _, _⟩) (v := ?_) rfl (by kernel_rfl) (by kernel_rfl) (by kernel_rfl) (fun _ _ _ h => h) (Or.inl ⟨by rfl, ?_⟩) (by assumption) ?_
    rotate_left
    · intro w hSw; (try dsimp only at hSw); go_simp; (try with_reducible rfl)
    try simp only [Act.put, List.setIfInBounds_toArray, List.set_cons_zero, List.set_cons_succ]
    refine wpAnyH_take (i := 3) (oi := ⟨some 35, _, _, _, _, _⟩) (v := ?_) rfl (by kernel_rfl) (by kernel_rfl) (by kernel_rfl) (fun _ _ _ h => h) (Or.inl ⟨by rfl, ?_⟩) (by assumption) ?_
    rotate_left
    · intro w hSw; have zc := HM2.out _ hSw; (try dsimp only at hSw); go_simp; (try with_reducible rfl)
    try simp only [Act.put, List.setIfInBounds_toArray, List.set_cons_zero, List.set_cons_succ]
    refine wpAnyH_take (i := 4) (oi := ⟨some 36, _, _, _, _, _⟩) (v := ?_) rfl (by kernel_rfl) (by kernel_rfl) (by kernel_rfl) (fun _ _ _ h => h) (Or.inl ⟨by rfl, ?_⟩) (by assumption) ?_
    rotate_left
    · intro w hSw; (try dsimp only at hSw); go_simp; (try with_reducible rfl)
    try simp only [Act.put, List.setIfInBounds_toArray, List.set_cons_zero, List.set_cons_succ]
    refine wpAnyH_take (i := 5) (oi := ⟨some 37, _, _, _, _, _⟩) (v := ?_) rfl (by kernel_rfl) (by kernel_rfl) (by kernel_rfl) (fun _ _ _ h => h) (Or.inl ⟨by rfl, ?_⟩) (by assumption) ?_
    rotate_left
    · intro w hSw; (try dsimp only at hSw); go_simp; (try with_reducible rfl)
    try simp only [Act.put, List.setIfInBounds_toArray, List.set_cons_zero, List.set_cons_succ]
    refine wpAnyH_take (i := 6) (oi := ⟨some 38, _, _, _, _, _⟩) (v := ?_) rfl (by kernel_rfl) (by kernel_rfl) (by kernel_rfl) (fun _ _ _ h => h) (Or.inl ⟨by rfl, ?_⟩) (by assumption) ?_
    rotate_left
    · intro w hSw; (try dsimp only at hSw); go_simp; (try with_reducible rfl)
    try simp only [Act.put, List.setIfInBounds_toArray, List.set_cons_zero, List.set_cons_succ]
    refine wpAnyH_take (i := 7) (oi := ⟨some 39, _, _, _, _, _⟩) (v := ?_) rfl (by kernel_rfl) (by kernel_rfl) (by kernel_rfl) (fun _ _ _ h => h) (Or.inl ⟨by rfl, ?_⟩) (by assumption) ?_
    rotate_left
    · intro w hSw; have zc := HZ2.out _ hSw; (try dsimp only at hSw); go_simp; (try with_reducible rfl)
    try simp only [Act.put, List.setIfInBounds_toArray, List.set_cons_zero, List.set_cons_succ]
    refine wpAnyH_take (i := 8) (oi := ⟨some 40, _, _, _, _, _⟩) (v := ?_) rfl (by kernel_rfl) (by kernel_rfl) (by kernel_rfl) (fun _ _ _ h => h) (Or.inl ⟨by rfl, ?_⟩) (by assumption) ?_
    rotate_left
    · intro w hSw; (try dsimp only at hSw); go_simp; (try with_reducible rfl)
    try simp only [Act.put, List.setIfInBounds_toArray, List.set_cons_zero, List.set_cons_succ]
    refine wpAnyH_take (i := 9) (oi := ⟨some 41, _, _, _, _, _⟩) (v := ?_) rfl (by kernel_rfl) (by kernel_rfl) (by kernel_rfl) (fun _ _ _ h => h) (Or.inl ⟨by rfl, ?_⟩) (by assumption) ?_
    rotate_left
    · intro w hSw; (try dsimp only at hSw); go_simp; (try with_reducible rfl)
    try simp only [Act.put, List.setIfInBounds_toArray, List.set_cons_zero, List.set_cons_succ]
    refine wpAnyH_take (i := 10) (oi := ⟨some 42, _, _, _, _, _⟩) (v := ?_) rfl (by kernel_rfl) (by kernel_rfl) (by kernel_rfl) (fun _ _ _ h => h) (Or.inl ⟨by rfl, ?_⟩) (by assumption) ?_
    rotate_left
    · intro w hSw; (try dsimp only at hSw); go_simp; (try with_reducible rfl)
    try simp only [Act.put, List.setIfInBounds_toArray, List.set_cons_zero, List.set_cons_succ]
    refine wpAnyH_take (i := 11) (oi := ⟨some 43, _, _, _, _, _⟩) (v := ?_) rfl (by kernel_rfl) (by kernel_rfl) (by kernel_rfl) (fun _ _ _ h => h) (Or.inl ⟨by rfl, ?_⟩) (by assumption) ?_
    rotate_left
    · intro w hSw; have zc := HN2.out _ hSw; (try dsimp only at hSw); go_simp; (try with_reducible rfl)
    try simp only [Act.put, List.setIfInBounds_toArray, List.set_cons_zero, List.set_cons_succ]
    refine wpAnyH_take (i := 12) (oi := ⟨some 44, _, _, _, _, _⟩) (v := ?_) rfl (by kernel_rfl) (by kernel_rfl) (by kernel_rfl) (fun _ _ _ h => h) (Or.inl ⟨by rfl, ?_⟩) (by assumption) ?_
    rotate_left
    · intro w hSw; (try dsimp only at hSw); go_simp; (try with_reducible rfl)
    try simp only [Act.put, List.setIfInBounds_toArray, List.set_cons_zero, List.set_cons_succ]
    refine wpAnyH_ready (rs := [13]) (by kernel_rfl) (by simp) (AllReadyH.cons (o := ⟨none, _, _, _, _, _⟩) rfl (fun Kc hKc => ?_) AllReadyH.nil)
    rw [if_pos (by rfl)]
    refine step_putP (w := w2.drew) (HP2.out.keep rfl) (by omega) _ _ _ rfl y.num KY.out i (by omega) rfl rfl rfl ?_; intro w3 hp3 ho3; have HP3 := Go.Lib.hid hp3; have HO3 := Go.Lib.hid ho3; clear hp3 ho3
    refine hKc.out _ _ (hHeld.trans HO3.out.gro) (fun hHeld => ?_)
    clear hKc Kc
    try simp only [Act.put, List.setIfInBounds_toArray, List.set_cons_zero, List.set_cons_succ]
    refine wpAnyH_done (by kernel_rfl) ?_ _
    have yq3 := hHeld
    clear hHeld
    have HG3 := Go.Lib.hid (HG2.out.gro yq3 hgm)
    have HR3 := Go.Lib.hid (own_keep (w' := w3) HR2.out (yq3.block r (own_ltI HR2.out r rfl) hrm))
    have HM3 : Hid (∀ Y, Gro mb w3 Y → Y.cell? ⟨g, 1, none⟩ = some (.map (some mb))) := Go.Lib.hid (fun Y y => (HG3.out.gro y hgm).cell 1 rfl)
    have HZ3 : Hid (∀ Y, Gro mb w3 Y → Y.cell? ⟨g, 0, none⟩ = some (.slice (some ⟨r, 0, none⟩) n c)) := Go.Lib.hid (fun Y y => (HG3.out.gro y hgm).cell 0 rfl)
    have HN3 : Hid (∀ Y, Gro mb w3 Y → Y.cell? ⟨r, j * 2, none⟩ = some (.int .i64 x.num)) := Go.Lib.hid (fun Y y' => by
      have hk := own_keep (w' := Y) HR3.out (y'.block r (own_ltI HR3.out r rfl) hrm)
      rw [own_cells hk (j * 2) (by omega), HAJ.out])
    have HP3 : Hid (PmAt w3 mb (putF (findH l) y.num i) n) := Go.Lib.hid (by have := HP3.out; rwa [HFY.out] at this)
    go_upto_region 2 with fail
    try simp only [Act.put, List.setIfInBounds_toArray, List.set_cons_zero, List.set_cons_succ]
    refine wp_region_held_drew (S := fun Y => Gro mb w3 Y) (by kernel_rfl) ?_ (fun hHeld => ?_)
    · exact (gro_below (below_drew (Below.refl _ _)))
    refine wpAnyH_take (i := 0) (oi := ⟨some 45, _, _, _, _, _⟩) (v := ?_) rfl (by kernel_rfl) (by kernel_rfl) (by kernel_rfl) (fun _ _ _ h => h) (Or.inl ⟨by rfl, ?_⟩) (by assumption) ?_
    rotate_left
    · intro w hSw; (try dsimp only at hSw); go_simp; (try with_reducible rfl)
    try simp only [Act.put, List.setIfInBounds_toArray, List.set_cons_zero, List.set_cons_succ]
    refine wpAnyH_take (i := 1) (oi := ⟨some 46, _, _, _, _, _⟩) (v := ?_) rfl (by kernel_rfl) (by kernel_rfl) (by kernel_rfl) (fun _ _ _ h => h) (Or.inl ⟨by rfl, ?_⟩) (by assumption) ?_
    rotate_left
    · intro w hSw; (try dsimp only at hSw); go_simp; (try with_reducible rfl)
    try simp only [Act.put, List.setIfInBounds_toArray, List.set_cons_zero, List.set_cons_succ]
    refine wpAnyH_take (i := 2) (oi := ⟨some 47, _, _, _, _, _⟩) (v := ?_) rfl (by kernel_rfl) (by kernel_rfl) (by kernel_rfl) (fun _ _ _ h => h) (Or.inl ⟨by rfl, ?_⟩) (by assumption) ?_
    rotate_left
    · intro w hSw; (try dsimp only at hSw); go_simp; (try with_reducible rfl)
    try simp only [Act.put, List.setIfInBounds_toArray, List.set_cons_zero, List.set_cons_succ]
    refine wpAnyH_take (i := 3) (oi := ⟨some 48, _, _, _, _, _⟩) (v := ?_) rfl (by kernel_rfl) (by kernel_rfl) (by kernel_rfl) (fun _ _ _ h => h) (Or.inl ⟨by rfl, ?_⟩) (by assumption) ?_
    rotate_left
    · intro w hSw; have zc := HM3.out _ hSw; (try dsimp only at hSw); go_simp; (try with_reducible rfl)
    try simp only [Act.put, List.setIfInBounds_toArray, List.set_cons_zero, List.set_cons_succ]
    refine wpAnyH_take (i := 4) (oi := ⟨some 49, _, _, _, _, _⟩) (v := ?_) rfl (by kernel_rfl) (by kernel_rfl) (by kernel_rfl) (fun _ _ _ h => h) (Or.inl ⟨by rfl, ?_⟩) (by assumption) ?_
    rotate_left
    · intro w hSw; (try dsimp only at hSw); go_simp; (try with_reducible rfl)
    try simp only [Act.put, List.setIfInBounds_toArray, List.set_cons_zero, List.set_cons_succ]
    refine wpAnyH_take (i := 5) (oi := ⟨some 50, _, _, _, _, _⟩) (v := ?_) rfl (by kernel_rfl) (by kernel_rfl) (by kernel_rfl) (fun _ _ _ h => h) (Or.inl ⟨by rfl, ?_⟩) (by assumption) ?_
    rotate_left
    · intro w hSw; (try dsimp only at hSw); go_simp; (try with_reducible rfl)
    try simp only [Act.put, List.setIfInBounds_toArray, List.set_cons_zero, List.set_cons_succ]
    refine wpAnyH_take (i := 6) (oi := ⟨some 51, _, _, _, _, _⟩) (v := ?_) rfl (by kernel_rfl) (by kernel_rfl) (by kernel_rfl) (fun _ _ _ h => h) (Or.inl ⟨by rfl, ?_⟩) (by assumption) ?_
    rotate_left
    · intro w hSw; (try dsimp only at hSw); go_simp; (try with_reducible rfl)
    try simp only [Act.put, List.setIfInBounds_toArray, List.set_cons_zero, List.set_cons_succ]
    refine wpAnyH_take (i := 7) (oi := ⟨some 52, _, _, _, _, _⟩) (v := ?_) rfl (by kernel_rfl) (by kernel_rfl) (by kernel_rfl) (fun _ _ _ h => h) (Or.inl ⟨by rfl, ?_⟩) (by assumption) ?_
    rotate_left
    · intro w hSw; have zc := HZ3.out _ hSw; (try dsimp only at hSw); go_simp; (try with_reducible rfl)
    try simp only [Act.put, List.setIfInBounds_toArray, List.set_cons_zero, List.set_cons_succ]
    refine wpAnyH_take (i := 8) (oi := ⟨some 53, _, _, _, _, _⟩) (v := ?_) rfl (by kernel_rfl) (by kernel_rfl) (by kernel_rfl) (fun _ _ _ h => h) (Or.inl ⟨by rfl, ?_⟩) (by assumption) ?_
    rotate_left
    · intro w hSw; (try dsimp only at hSw); go_simp; (try with_reducible rfl)
    try simp only [Act.put, List.setIfInBounds_toArray, List.set_cons_zero, List.set_cons_succ]
    refine wpAnyH_take (i := 9) (oi := ⟨some 54, _, _, _, _, _⟩) (v := ?_) rfl (by kernel_rfl) (by kernel_rfl) (by kernel_rfl) (fun _ _ _ h => h) (Or.inl ⟨by rfl, ?_⟩) (by assumption) ?_
    rotate_left
    · intro w hSw; (try dsimp only at hSw); go_simp; (try with_reducible rfl)
    try simp only [Act.put, List.setIfInBounds_toArray, List.set_cons_zero, List.set_cons_succ]
    refine wpAnyH_take (i := 10) (oi := ⟨some 55, _, _, _, _, _⟩) (v := ?_) rfl (by kernel_rfl) (by kernel_rfl) (by kernel_rfl) (fun _ _ _ h => h) (Or.inl ⟨by rfl, ?_⟩) (by assumption) ?_
    rotate_left
    · intro w hSw; (try dsimp only at hSw); go_simp; (try with_reducible rfl)
    try simp only [Act.put, List.setIfInBounds_toArray, List.set_cons_zero, List.set_cons_succ]
    refine wpAnyH_take (i := 11) (oi := ⟨some 56, _, _, _, _, _⟩) (v := ?_) rfl (by kernel_rfl) (by kernel_rfl) (by kernel_rfl) (fun _ _ _ h => h) (Or.inl ⟨by rfl, ?_⟩) (by assumption) ?_
    rotate_left
    · intro w hSw; have zc := HN3.out _ hSw; (try dsimp only at hSw); go_simp; (try with_reducible rfl)
    try simp only [Act.put, List.setIfInBounds_toArray, List.set_cons_zero, List.set_cons_succ]
    refine wpAnyH_take (i := 12) (oi := ⟨some 57, _, _, _, _, _⟩) (v := ?_) rfl (by kernel_rfl) (by kernel_rfl) (by kernel_rfl) (fun _ _ _ h => h) (Or.inl ⟨by rfl, ?_⟩) (by assumption) ?_
    rotate_left
    · intro w hSw; (try dsimp only at hSw); go_simp; (try with_reducible rfl)
    try simp only [Act.put, List.setIfInBounds_toArray, List.set_cons_zero, List.set_cons_succ]
    refine wpAnyH_ready (rs := [13]) (by kernel_rfl) (by simp) (AllReadyH.cons (o := ⟨none, _, _, _, _, _⟩) rfl (fun Kc hKc => ?_) AllReadyH.nil)
    rw [if_pos (by rfl)]
    refine step_putP (w := w3.drew) (HP3.out.keep rfl) (by omega) _ _ _ rfl x.num KX.out j (by omega) rfl rfl rfl ?_; intro w4 hp4 ho4; have HP4 := Go.Lib.hid hp4; have HO4 := Go.Lib.hid ho4; clear hp4 ho4
    refine hKc.out _ _ (hHeld.trans HO4.out.gro) (fun hHeld => ?_)
    clear hKc Kc
    try simp only [Act.put, List.setIfInBounds_toArray, List.set_cons_zero, List.set_cons_succ]
    refine wpAnyH_done (by kernel_rfl) ?_ _
    have yq4 := hHeld
    clear hHeld
    have HP4 : Hid (PmAt w4 mb (putF (putF (findH l) y.num i) x.num j) n) := Go.Lib.hid (by have := HP4.out; rwa [HFX.out] at this)
    have HG4 := Go.Lib.hid (HG3.out.gro yq4 hgm)
    have HR4 := Go.Lib.hid (own_keep (w' := w4) HR3.out (yq4.block r (own_ltI HR3.out r rfl) hrm))
    go_wp2
    go_end0
    refine ⟨rfl, GR.mk' HNL.out HG4.out HR4.out ?_ HGR.out, (gro_moves yq HF.out.1).trans ((gro_moves yq3 HF.out.2).trans (gro_moves yq4 HF.out.2))⟩
    rw [HMP.out]
    exact HP4.out
  ·
    rw [if_pos (by rfl)]
    refine step_load_at 67 _ rfl ⟨r, i * 2, none⟩ rfl (alL x) _ (HX.out _ rfl) Try.underlying67 rfl info_alg ?_
    refine hKc.out _ _ (hHeld) (fun hHeld => ?_)
    clear hKc Kc
    try simp only [Act.put, List.setIfInBounds_toArray, List.set_cons_zero, List.set_cons_succ]
    refine wpAnyH_ready (rs := [16]) (by kernel_rfl) (by simp) (AllReadyH.cons (o := ⟨some 22, _, _, _, _, _⟩) rfl (fun Kc hKc => ?_) AllReadyH.nil)
    rw [if_pos (by rfl)]
    refine step_load_at 67 _ rfl ⟨r, j * 2, none⟩ rfl (alL y) _ (HY.out _ rfl) Try.underlying67 rfl info_alg ?_
    refine hKc.out _ _ (hHeld) (fun hHeld => ?_)
    clear hKc Kc
    try simp only [Act.put, List.setIfInBounds_toArray, List.set_cons_zero, List.set_cons_succ]
    refine wpAnyH_take (i := 24) (oi := ⟨some 30, _, _, _, _, _⟩) (v := ?_) rfl (by kernel_rfl) (by kernel_rfl) (by kernel_rfl) (fun _ _ _ h => h) (Or.inl ⟨by rfl, ?_⟩) (by assumption) ?_
    rotate_left
    · intro w hSw; (try dsimp only at hSw); go_simp; (try with_reducible rfl)
    try simp only [Act.put, List.setIfInBounds_toArray, List.set_cons_zero, List.set_cons_succ]
    refine wpAnyH_ready (rs := [25]) (by kernel_rfl) (by simp) (AllReadyH.cons (o := ⟨none, _, _, _, _, _⟩) rfl (fun Kc hKc => ?_) AllReadyH.nil)
    rw [if_pos (by rfl)]
    refine step_store_any 67 _ _ rfl r (i * 2) 67 cur (alL y) _ rfl rfl rfl HD.out info_alg hi2 (by simp [Value.oneCell']) ?_; intro w1 hb1 ho1; have HB1 := Go.Lib.hid hb1; have HO1 := Go.Lib.hid ho1; clear hb1 ho1
    refine hKc.out _ _ (hHeld.trans HO1.out.gro) (fun hHeld => ?_)
    clear hKc Kc
    try simp only [Act.put, List.setIfInBounds_toArray, List.set_cons_zero, List.set_cons_succ]
    refine wpAnyH_take (i := 26) (oi := ⟨some 31, _, _, _, _, _⟩) (v := ?_) rfl (by kernel_rfl) (by kernel_rfl) (by kernel_rfl) (fun _ _ _ h => h) (Or.inl ⟨by rfl, ?_⟩) (by assumption) ?_
    rotate_left
    · intro w hSw; (try dsimp only at hSw); go_simp; (try with_reducible rfl)
    try simp only [Act.put, List.setIfInBounds_toArray, List.set_cons_zero, List.set_cons_succ]
    refine wpAnyH_ready (rs := [27]) (by kernel_rfl) (by simp) (AllReadyH.cons (o := ⟨none, _, _, _, _, _⟩) rfl (fun Kc hKc => ?_) AllReadyH.nil)
    rw [if_pos (by rfl)]
    refine step_store_any 67 _ _ rfl r (j * 2) 67 _ (alL x) _ rfl rfl rfl HB1.out info_alg (by rw [spl_length]; exact hj2) (by simp [Value.oneCell']) ?_; intro w2 hb2 ho2; have HB2 := Go.Lib.hid hb2; have HO2 := Go.Lib.hid ho2; clear hb2 ho2
    refine hKc.out _ _ (hHeld.trans HO2.out.gro) (fun hHeld => ?_)
    clear hKc Kc
    try simp only [Act.put, List.setIfInBounds_toArray, List.set_cons_zero, List.set_cons_succ]
    refine wpAnyH_done (by kernel_rfl) ?_ _
    have yq := hHeld
    clear hHeld
    have HG2 := Go.Lib.hid (HB.out.gro yq (Ne.symm hrg))
    have hro1 := own_spl (own_keep (w' := w.drew) HRW.out rfl) HD.out (by show i * 2 + 2 ≤ _; omega) HB1.out
    rw [HSP1.out] at hro1
    have hro2 := own_spl hro1 HB1.out (by show j * 2 + 2 ≤ _; omega) HB2.out
    rw [HSP2.out] at hro2
    have HR2 := Go.Lib.hid hro2
    have HP2 := Go.Lib.hid (HP.out.keep (yq.block mb HP.out.lt (Ne.symm hrm)))
    clear hro1 hro2
    have HM2 : Hid (∀ Y, Gro mb w2 Y → Y.cell? ⟨g, 1, none⟩ = some (.map (some mb))) := Go.Lib.hid (fun Y y => (HG2.out.gro y hgm).cell 1 rfl)
    have HZ2 : Hid (∀ Y, Gro mb w2 Y → Y.cell? ⟨g, 0, none⟩ = some (.slice (some ⟨r, 0, none⟩) n c)) := Go.Lib.hid (fun Y y => (HG2.out.gro y hgm).cell 0 rfl)
    have HN2 : Hid (∀ Y, Gro mb w2 Y → Y.cell? ⟨r, i * 2, none⟩ = some (.int .i64 y.num)) := Go.Lib.hid (fun Y y' => by
      have hk := own_keep (w' := Y) HR2.out (y'.block r (own_ltI HR2.out r rfl) hrm)
      rw [own_cells hk (i * 2) (by omega), HAI.out])
    go_upto_region 1 with fail
    try simp only [Act.put, List.setIfInBounds_toArray, List.set_cons_zero, List.set_cons_succ]
    refine wp_region_held_drew (S := fun Y => Gro mb w2 Y) (by kernel_rfl) ?_ (fun hHeld => ?_)
    · exact (gro_below (below_drew (Below.refl _ _)))
    refine wpAnyH_take (i := 0) (oi := ⟨some 32, _, _, _, _, _⟩) (v := ?_) rfl (by kernel_rfl) (by kernel_rfl) (by kernel_rfl) (fun _ _ _ h => h) (Or.inl ⟨by rfl, ?_⟩) (by assumption) ?_
    rotate_left
    · intro w hSw; (try dsimp only at hSw); go_simp; (try with_reducible rfl)
    try simp only [Act.put, List.setIfInBounds_toArray, List.set_cons_zero, List.set_cons_succ]
    refine wpAnyH_take (i := 1) (oi := ⟨some 33, _, _, _, _, _⟩) (v := ?_) rfl (by kernel_rfl) (by kernel_rfl) (by kernel_rfl) (fun _ _ _ h => h) (Or.inl ⟨by rfl, ?_⟩) (by assumption) ?_
    rotate_left
    · intro w hSw; (try dsimp only at hSw); go_simp; (try with_reducible rfl)
    try simp only [Act.put, List.setIfInBounds_toArray, List.set_cons_zero, List.set_cons_succ]
    refine wpAnyH_take (i := 2) (oi := ⟨some 34, _, _, _, _, _⟩) (v := ?_) rfl (by kernel_rfl) (by kernel_rfl) (by kernel_rfl) (fun _ _ _ h => h) (Or.inl ⟨by rfl, ?_⟩) (by assumption) ?_
    rotate_left
    · intro w hSw; (try dsimp only at hSw); go_simp; (try with_reducible rfl)
    try simp only [Act.put, List.setIfInBounds_toArray, List.set_cons_zero, List.set_cons_succ]
    refine wpAnyH_take (i := 3) (oi := ⟨some 35, _, _, _, _, _⟩) (v := ?_) rfl (by kernel_rfl) (by kernel_rfl) (by kernel_rfl) (fun _ _ _ h => h) (Or.inl ⟨by rfl, ?_⟩) (by assumption) ?_
    rotate_left
    · intro w hSw; have zc := HM2.out _ hSw; (try dsimp only at hSw); go_simp; (try with_reducible rfl)
    try simp only [Act.put, List.setIfInBounds_toArray, List.set_cons_zero, List.set_cons_succ]
    refine wpAnyH_take (i := 4) (oi := ⟨some 36, _, _, _, _, _⟩) (v := ?_) rfl (by kernel_rfl) (by kernel_rfl) (by kernel_rfl) (fun _ _ _ h => h) (Or.inl ⟨by rfl, ?_⟩) (by assumption) ?_
    rotate_left
    · intro w hSw; (try dsimp only at hSw); go_simp; (try with_reducible rfl)
    try simp only [Act.put, List.setIfInBounds_toArray, List.set_cons_zero, List.set_cons_succ]
    refine wpAnyH_take (i := 5) (oi := ⟨some 37, _, _, _, _, _⟩) (v := ?_) rfl (by kernel_rfl) (by kernel_rfl) (by kernel_rfl) (fun _ _ _ h => h) (Or.inl ⟨by rfl, ?_⟩) (by assumption) ?_
    rotate_left
    · intro w hSw; (try dsimp only at hSw); go_simp; (try with_reducible rfl)
    try simp only [Act.put, List.setIfInBounds_toArray, List.set_cons_zero, List.set_cons_succ]
    refine wpAnyH_take (i := 6) (oi := ⟨some 38, _, _, _, _, _⟩) (v := ?_) rfl (by kernel_rfl) (by kernel_rfl) (by kernel_rfl) (fun _ _ _ h => h) (Or.inl ⟨by rfl, ?_⟩) (by assumption) ?_
    rotate_left
    · intro w hSw; (try dsimp only at hSw); go_simp; (try with_reducible rfl)
    try simp only [Act.put, List.setIfInBounds_toArray, List.set_cons_zero, List.set_cons_succ]
    refine wpAnyH_take (i := 7) (oi := ⟨some 39, _, _, _, _, _⟩) (v := ?_) rfl (by kernel_rfl) (by kernel_rfl) (by kernel_rfl) (fun _ _ _ h => h) (Or.inl ⟨by rfl, ?_⟩) (by assumption) ?_
    rotate_left
    · intro w hSw; have zc := HZ2.out _ hSw; (try dsimp only at hSw); go_simp; (try with_reducible rfl)
    try simp only [Act.put, List.setIfInBounds_toArray, List.set_cons_zero, List.set_cons_succ]
    refine wpAnyH_take (i := 8) (oi := ⟨some 40, _, _, _, _, _⟩) (v := ?_) rfl (by kernel_rfl) (by kernel_rfl) (by kernel_rfl) (fun _ _ _ h => h) (Or.inl ⟨by rfl, ?_⟩) (by assumption) ?_
    rotate_left
    · intro w hSw; (try dsimp only at hSw); go_simp; (try with_reducible rfl)
    try simp only [Act.put, List.setIfInBounds_toArray, List.set_cons_zero, List.set_cons_succ]
    refine wpAnyH_take (i := 9) (oi := ⟨some 41, _, _, _, _, _⟩) (v := ?_) rfl (by kernel_rfl) (by kernel_rfl) (by kernel_rfl) (fun _ _ _ h => h) (Or.inl ⟨by rfl, ?_⟩) (by assumption) ?_
    rotate_left
    · intro w hSw; (try dsimp only at hSw); go_simp; (try with_reducible rfl)
    try simp only [Act.put, List.setIfInBounds_toArray, List.set_cons_zero, List.set_cons_succ]
    refine wpAnyH_take (i := 10) (oi := ⟨some 42, _, _, _, _, _⟩) (v := ?_) rfl (by kernel_rfl) (by kernel_rfl) (by kernel_rfl) (fun _ _ _ h => h) (Or.inl ⟨by rfl, ?_⟩) (by assumption) ?_
    rotate_left
    · intro w hSw; (try dsimp only at hSw); go_simp; (try with_reducible rfl)
    try simp only [Act.put, List.setIfInBounds_toArray, List.set_cons_zero, List.set_cons_succ]
    refine wpAnyH_take (i := 11) (oi := ⟨some 43, _, _, _, _, _⟩) (v := ?_) rfl (by kernel_rfl) (by kernel_rfl) (by kernel_rfl) (fun _ _ _ h => h) (Or.inl ⟨by rfl, ?_⟩) (by assumption) ?_
    rotate_left
    · intro w hSw; have zc := HN2.out _ hSw; (try dsimp only at hSw); go_simp; (try with_reducible rfl)
    try simp only [Act.put, List.setIfInBounds_toArray, List.set_cons_zero, List.set_cons_succ]
    refine wpAnyH_take (i := 12) (oi := ⟨some 44, _, _, _, _, _⟩) (v := ?_) rfl (by kernel_rfl) (by kernel_rfl) (by kernel_rfl) (fun _ _ _ h => h) (Or.inl ⟨by rfl, ?_⟩) (by assumption) ?_
    rotate_left
    · intro w hSw; (try dsimp only at hSw); go_simp; (try with_reducible rfl)
    try simp only [Act.put, List.setIfInBounds_toArray, List.set_cons_zero, List.set_cons_succ]
    refine wpAnyH_ready (rs := [13]) (by kernel_rfl) (by simp) (AllReadyH.cons (o := ⟨none, _, _, _, _, _⟩) rfl (fun Kc hKc => ?_) AllReadyH.nil)
    rw [if_pos (by rfl)]
    refine step_putP (w := w2.drew) (HP2.out.keep rfl) (by omega) _ _ _ rfl y.num KY.out i (by omega) rfl rfl rfl ?_; intro w3 hp3 ho3; have HP3 := Go.Lib.hid hp3; have HO3 := Go.Lib.hid ho3; clear hp3 ho3
    refine hKc.out _ _ (hHeld.trans HO3.out.gro) (fun hHeld => ?_)
    clear hKc Kc
    try simp only [Act.put, List.setIfInBounds_toArray, List.set_cons_zero, List.set_cons_succ]
    refine wpAnyH_done (by kernel_rfl) ?_ _
    have yq3 := hHeld
    clear hHeld
    have HG3 := Go.Lib.hid (HG2.out.gro yq3 hgm)
    have HR3 := Go.Lib.hid (own_keep (w' := w3) HR2.out (yq3.block r (own_ltI HR2.out r rfl) hrm))
    have HM3 : Hid (∀ Y, Gro mb w3 Y → Y.cell? ⟨g, 1, none⟩ = some (.map (some mb))) := Go.Lib.hid (fun Y y => (HG3.out.gro y hgm).cell 1 rfl)
    have HZ3 : Hid (∀ Y, Gro mb w3 Y → Y.cell? ⟨g, 0, none⟩ = some (.slice (some ⟨r, 0, none⟩) n c)) := Go.Lib.hid (fun Y y => (HG3.out.gro y hgm).cell 0 rfl)
    have HN3 : Hid (∀ Y, Gro mb w3 Y → Y.cell? ⟨r, j * 2, none⟩ = some (.int .i64 x.num)) := Go.Lib.hid (fun Y y' => by
      have hk := own_keep (w' := Y) HR3.out (y'.block r (own_ltI HR3.out r rfl) hrm)
      rw [own_cells hk (j * 2) (by omega), HAJ.out])
    have HP3 : Hid (PmAt w3 mb (putF (findH l) y.num i) n) := Go.Lib.hid (by have := HP3.out; rwa [HFY.out] at this)
    go_upto_region 2 with fail
    try simp only [Act.put, List.setIfInBounds_toArray, List.set_cons_zero, List.set_cons_succ]
    refine wp_region_held_drew (S := fun Y => Gro mb w3 Y) (by kernel_rfl) ?_ (fun hHeld => ?_)
    · exact (gro_below (below_drew (Below.refl _ _)))
    refine wpAnyH_take (i := 0) (oi := ⟨some 45, _, _, _, _, _⟩) (v := ?_) rfl (by kernel_rfl) (by kernel_rfl) (by kernel_rfl) (fun _ _ _ h => h) (Or.inl ⟨by rfl, ?_⟩) (by assumption) ?_
    rotate_left
    · intro w hSw; (try dsimp only at hSw); go_simp; (try with_reducible rfl)
    try simp only [Act.put, List.setIfInBounds_toArray, List.set_cons_zero, List.set_cons_succ]
    refine wpAnyH_take (i := 1) (oi := ⟨some 46, _, _, _, _, _⟩) (v := ?_) rfl (by kernel_rfl) (by kernel_rfl) (by kernel_rfl) (fun _ _ _ h => h) (Or.inl ⟨by rfl, ?_⟩) (by assumption) ?_
    rotate_left
    · intro w hSw; (try dsimp only at hSw); go_simp; (try with_reducible rfl)
    try simp only [Act.put, List.setIfInBounds_toArray, List.set_cons_zero, List.set_cons_succ]
    refine wpAnyH_take (i := 2) (oi := ⟨some 47, _, _, _, _, _⟩) (v := ?_) rfl (by kernel_rfl) (by kernel_rfl) (by kernel_rfl) (fun _ _ _ h => h) (Or.inl ⟨by rfl, ?_⟩) (by assumption) ?_
    rotate_left
    · intro w hSw; (try dsimp only at hSw); go_simp; (try with_reducible rfl)
    try simp only [Act.put, List.setIfInBounds_toArray, List.set_cons_zero, List.set_cons_succ]
    refine wpAnyH_take (i := 3) (oi := ⟨some 48, _, _, _, _, _⟩) (v := ?_) rfl (by kernel_rfl) (by kernel_rfl) (by kernel_rfl) (fun _ _ _ h => h) (Or.inl ⟨by rfl, ?_⟩) (by assumption) ?_
    rotate_left
    · intro w hSw; have zc := HM3.out _ hSw; (try dsimp only at hSw); go_simp; (try with_reducible rfl)
    try simp only [Act.put, List.setIfInBounds_toArray, List.set_cons_zero, List.set_cons_succ]
    refine wpAnyH_take (i := 4) (oi := ⟨some 49, _, _, _, _, _⟩) (v := ?_) rfl (by kernel_rfl) (by kernel_rfl) (by kernel_rfl) (fun _ _ _ h => h) (Or.inl ⟨by rfl, ?_⟩) (by assumption) ?_
    rotate_left
    · intro w hSw; (try dsimp only at hSw); go_simp; (try with_reducible rfl)
    try simp only [Act.put, List.setIfInBounds_toArray, List.set_cons_zero, List.set_cons_succ]
    refine wpAnyH_take (i := 5) (oi := ⟨some 50, _, _, _, _, _⟩) (v := ?_) rfl (by kernel_rfl) (by kernel_rfl) (by kernel_rfl) (fun _ _ _ h => h) (Or.inl ⟨by rfl, ?_⟩) (by assumption) ?_
    rotate_left
    · intro w hSw; (try dsimp only at hSw); go_simp; (try with_reducible rfl)
    try simp only [Act.put, List.setIfInBounds_toArray, List.set_cons_zero, List.set_cons_succ]
    refine wpAnyH_take (i := 6) (oi := ⟨some 51, _, _, _, _, _⟩) (v := ?_) rfl (by kernel_rfl) (by kernel_rfl) (by kernel_rfl) (fun _ _ _ h => h) (Or.inl ⟨by rfl, ?_⟩) (by assumption) ?_
    rotate_left
    · intro w hSw; (try dsimp only at hSw); go_simp; (try with_reducible rfl)
    try simp only [Act.put, List.setIfInBounds_toArray, List.set_cons_zero, List.set_cons_succ]
    refine wpAnyH_take (i := 7) (oi := ⟨some 52, _, _, _, _, _⟩) (v := ?_) rfl (by kernel_rfl) (by kernel_rfl) (by kernel_rfl) (fun _ _ _ h => h) (Or.inl ⟨by rfl, ?_⟩) (by assumption) ?_
    rotate_left
    · intro w hSw; have zc := HZ3.out _ hSw; (try dsimp only at hSw); go_simp; (try with_reducible rfl)
    try simp only [Act.put, List.setIfInBounds_toArray, List.set_cons_zero, List.set_cons_succ]
    refine wpAnyH_take (i := 8) (oi := ⟨some 53, _, _, _, _, _⟩) (v := ?_) rfl (by kernel_rfl) (by kernel_rfl) (by kernel_rfl) (fun _ _ _ h => h) (Or.inl ⟨by rfl, ?_⟩) (by assumption) ?_
    rotate_left
    · intro w hSw; (try dsimp only at hSw); go_simp; (try with_reducible rfl)
    try simp only [Act.put, List.setIfInBounds_toArray, List.set_cons_zero, List.set_cons_succ]
    refine wpAnyH_take (i := 9) (oi := ⟨some 54, _, _, _, _, _⟩) (v := ?_) rfl (by kernel_rfl) (by kernel_rfl) (by kernel_rfl) (fun _ _ _ h => h) (Or.inl ⟨by rfl, ?_⟩) (by assumption) ?_
    rotate_left
    · intro w hSw; (try dsimp only at hSw); go_simp; (try with_reducible rfl)
    try simp only [Act.put, List.setIfInBounds_toArray, List.set_cons_zero, List.set_cons_succ]
    refine wpAnyH_take (i := 10) (oi := ⟨some 55, _, _, _, _, _⟩) (v := ?_) rfl (by kernel_rfl) (by kernel_rfl) (by kernel_rfl) (fun _ _ _ h => h) (Or.inl ⟨by rfl, ?_⟩) (by assumption) ?_
    rotate_left
    · intro w hSw; (try dsimp only at hSw); go_simp; (try with_reducible rfl)
    try simp only [Act.put, List.setIfInBounds_toArray, List.set_cons_zero, List.set_cons_succ]
    refine wpAnyH_take (i := 11) (oi := ⟨some 56, _, _, _, _, _⟩) (v := ?_) rfl (by kernel_rfl) (by kernel_rfl) (by kernel_rfl) (fun _ _ _ h => h) (Or.inl ⟨by rfl, ?_⟩) (by assumption) ?_
    rotate_left
    · intro w hSw; have zc := HN3.out _ hSw; (try dsimp only at hSw); go_simp; (try with_reducible rfl)
    try simp only [Act.put, List.setIfInBounds_toArray, List.set_cons_zero, List.set_cons_succ]
    refine wpAnyH_take (i := 12) (oi := ⟨some 57, _, _, _, _, _⟩) (v := ?_) rfl (by kernel_rfl) (by kernel_rfl) (by kernel_rfl) (fun _ _ _ h => h) (Or.inl ⟨by rfl, ?_⟩) (by assumption) ?_
    rotate_left
    · intro w hSw; (try dsimp only at hSw); go_simp; (try with_reducible rfl)
    try simp only [Act.put, List.setIfInBounds_toArray, List.set_cons_zero, List.set_cons_succ]
    refine wpAnyH_ready (rs := [13]) (by kernel_rfl) (by simp) (AllReadyH.cons (o := ⟨none, _, _, _, _, _⟩) rfl (fun Kc hKc => ?_) AllReadyH.nil)
    rw [if_pos (by rfl)]
    refine step_putP (w := w3.drew) (HP3.out.keep rfl) (by omega) _ _ _ rfl x.num KX.out j (by omega) rfl rfl rfl ?_; intro w4 hp4 ho4; have HP4 := Go.Lib.hid hp4; have HO4 := Go.Lib.hid ho4; clear hp4 ho4
    refine hKc.out _ _ (hHeld.trans HO4.out.gro) (fun hHeld => ?_)
    clear hKc Kc
    try simp only [Act.put, List.setIfInBounds_toArray, List.set_cons_zero, List.set_cons_succ]
    refine wpAnyH_done (by kernel_rfl) ?_ _
    have yq4 := hHeld
    clear hHeld
    have HP4 : Hid (PmAt w4 mb (putF (putF (findH l) y.num i) x.num j) n) := Go.Lib.hid (by have := HP4.out; rwa [HFX.out] at this)
    have HG4 := Go.Lib.hid (HG3.out.gro yq4 hgm)
    have HR4 := Go.Lib.hid (own_keep (w' := w4) HR3.out (yq4.block r (own_ltI HR3.out r rfl) hrm))
    go_wp2
    go_end0
    refine ⟨rfl, GR.mk' HNL.out HG4.out HR4.out ?_ HGR.out, (gro_moves yq HF.out.1).trans ((gro_moves yq3 HF.out.2).trans (gro_moves yq4 HF.out.2))⟩
    rw [HMP.out]
    exact HP4.out
end Go.Proofs.Ytebmomanpkmloaa
