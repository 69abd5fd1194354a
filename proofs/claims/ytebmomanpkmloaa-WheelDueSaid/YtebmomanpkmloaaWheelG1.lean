/- A wheel as a heap in a struct, its places in a map: its memory; Len, Less. -/
import Derived.Test.YtebmomanpkmloaaWheelPos
import Derived.Test.YtebmomanpkmloaaHeapP
import Derived.Test.YtebmomanpkmloaaPm
import Derived.Test.YtebmomanpkmloaaWheelR5
namespace Go.Proofs.Ytebmomanpkmloaa
open Go.ChangeShapes Go.WideShapes Go.ChangeAt Go.RowKit
set_option linter.unusedVariables false
set_option linter.unusedSimpArgs false

theorem info_alg : (Try.prog.info? 67).map (·.size) = some 2 := by kernel_rfl
abbrev alV (a : Al) : Value := .agg #[.int .i64 a.num, .int .i64 a.at_]
/-- the wheel's memory: a struct in block g, a row of alarms, a map of places. -/
structure GR (w : World) (g : Nat) (l : List Al) (now : Int) (F : Nat → Prop) (A : Option Addr) (c mb : Nat) : Prop where
  box : Bxo w g 59 [.slice A l.length c, .map (some mb), .int .i64 now]
  row : w.ownsRow 0 67 2 (.slice A l.length c) l.length (l.flatMap Al.L)
  map : PmAt w mb (findH l) l.length
  blocks : ∀ b, F b ↔ (b = g ∨ b = mb ∨ blk A = some b)
  g1 : g ≠ mb
  g2 : blk A ≠ some g
  g3 : blk A ≠ some mb
  once : OnceA l
  rng : ∀ a ∈ l, 0 ≤ a.num ∧ a.num ≤ 2147483647
  size : l.length ≤ 256
section
variable {w w' : World} {g : Nat} {l : List Al} {now : Int} {F : Nat → Prop} {A : Option Addr} {c mb : Nat}
theorem GR.lt (h : GR w g l now F A c mb) (b : Nat) (hb : F b) : b < w.heap.size := by
  rcases (h.blocks b).1 hb with rfl | rfl | e
  · exact h.box.lt
  · exact h.map.lt
  · exact own_ltI h.row b e
theorem GR.keep (h : GR w g l now F A c mb) (hk : ∀ b, F b → w'.heap[b]? = w.heap[b]?) : GR w' g l now F A c mb :=
  ⟨(hk g ((h.blocks g).2 (.inl rfl))).trans h.box, own_keepA h.row (fun b e => hk b ((h.blocks b).2 (.inr (.inr e)))), h.map.keep (hk mb ((h.blocks mb).2 (.inr (.inl rfl)))), h.blocks, h.g1, h.g2, h.g3, h.once, h.rng, h.size⟩
theorem GR.call (h : GR w g l now F A c mb) (y : Below w.heap.size w w') : GR w' g l now F A c mb := h.keep fun b hb => y.block b (h.lt b hb)
/-- an alarm's cells. -/
theorem GR.cell (h : GR w g l now F A c mb) {i : Nat} (hi : i < l.length) : ∃ r, A = some ⟨r, 0, none⟩ ∧ r < w.heap.size ∧ ∀ Y : World, Y.heap[r]? = w.heap[r]? → ∀ j v, (alL (atA l i))[j]? = some v → Y.cell? ((⟨r, i * 2, none⟩ : Addr).add j) = some v := by
  rcases own_addr h.row with ⟨_, h0, _⟩ | ⟨r, e, _, hr⟩
  · omega
  · refine ⟨r, e, hr, fun Y hY j v hv => ?_⟩
    have hrow := h.row
    rw [e] at hrow
    have hk := own_keep (w' := Y) hrow hY
    have hj : j < 2 := by have := (List.getElem?_eq_some_iff.1 hv).1; simpa using this
    have h1 : (l.flatMap Al.L)[i * 2 + j]? = some v := by
      rw [flat_get Al.L 2 Al.len l i j hi hj, ← atA_get hi]; exact hv
    rw [Addr.add_mid, own_cells hk (i * 2 + j) (by have : (i + 1) * 2 ≤ l.length * 2 := Nat.mul_le_mul_right 2 hi; omega)]
    exact h1
end
set_option maxHeartbeats 400000 in
theorem glen {w : World} {g : Nat} {l : List Al} {now : Int} {F : Nat → Prop} {A : Option Addr} {c mb : Nat} (h : GR w g l now F A c mb) (n : Nat) (hn : l.length = n) :
    Calls Try.prog 46 #[.pointer (some ⟨g, 0, none⟩)] w fun e w' => e = .returned (.int .i64 n) ∧ Below w.heap.size w w' := by
  have c0 := h.box.cell 0 rfl
  rw [hn] at c0
  clear h hn
  go_enter Try.func46, Try.ntmps46
  go_wp2
  go_ret
  exact ⟨rfl, Below.refl _ _⟩
set_option maxRecDepth 100000 in
set_option maxHeartbeats 4000000 in
theorem gless {w : World} {g : Nat} {l : List Al} {now : Int} {F : Nat → Prop} {A : Option Addr} {c mb : Nat} (h : GR w g l now F A c mb) (i j : Nat) (q : Bool) (hi : i < l.length) (hj : j < l.length) (hq : ltA (atA l i) (atA l j) = q) :
    Calls Try.prog 47 #[.pointer (some ⟨g, 0, none⟩), .int .i64 i, .int .i64 j] w fun e w' => e = .returned (.bool q) ∧ Below w.heap.size w w' := by
  obtain ⟨r, rfl, hr, hci⟩ := h.cell hi
  obtain ⟨r', e', _, hcj⟩ := h.cell hj
  cases e'
  have HB := Go.Lib.hid h.box
  have hnc := (own_cap h.row).1
  obtain ⟨n, hn⟩ : ∃ n, l.length = n := ⟨_, rfl⟩
  rw [hn] at hi hj HB hnc
  obtain ⟨x, hx⟩ : ∃ x, atA l i = x := ⟨_, rfl⟩
  obtain ⟨y, hy⟩ : ∃ y, atA l j = y := ⟨_, rfl⟩
  rw [hx, hy] at hq
  rw [hx] at hci
  rw [hy] at hcj
  have HX : Hid (∀ Y, Below w.heap.size w Y → ∀ j v, (alL x)[j]? = some v → Y.cell? ((⟨r, i * 2, none⟩ : Addr).add j) = some v) := Go.Lib.hid (fun Y y => hci Y (y.block r hr))
  have HY : Hid (∀ Y, Below w.heap.size w Y → ∀ k v, (alL y)[k]? = some v → Y.cell? ((⟨r, j * 2, none⟩ : Addr).add k) = some v) := Go.Lib.hid (fun Y y => hcj Y (y.block r hr))
  have HQ := Go.Lib.hid hq
  have HC0 : Hid (∀ Y, Below w.heap.size w Y → Y.cell? ⟨g, 0, none⟩ = some (.slice (some ⟨r, 0, none⟩) n c)) := Go.Lib.hid (fun Y y => (HB.out.keep y HB.out.lt).cell 0 rfl)
  have i1 : (0 : Int) ≤ (i : Int) := by omega
  have i2 : (i : Int) < (n : Int) := by omega
  have j1 : (0 : Int) ≤ (j : Int) := by omega
  have j2 : (j : Int) < (n : Int) := by omega
  clear h hci hcj hq hx hy hn
  go_enter Try.func47, Try.ntmps47
  go_upto_region 1 with fail
  try simp only [Act.put, List.setIfInBounds_toArray, List.set_cons_zero, List.set_cons_succ]
  refine wp_region_held_drew (S := fun Y => Below w.heap.size w Y) (by kernel_rfl) ?_ (fun hHeld => ?_)
  · exact below_drew (Below.refl _ _)
  have zd : w.drew.heap.size ≤ w.heap.size := Nat.le_refl _; have zd2 : w.heap.size ≤ w.drew.heap.size := Nat.le_refl _
  refine wpAnyH_take (i := 0) (oi := ⟨some 9, _, _, _, _, _⟩) (v := ?_) rfl (by kernel_rfl) (by kernel_rfl) (by kernel_rfl) (fun _ _ _ h => h) (Or.inl ⟨by rfl, ?_⟩) (by assumption) ?_
  rotate_left
  · intro w hSw; (try dsimp only at hSw); go_simp; (try with_reducible rfl)
  try simp only [Act.put, List.setIfInBounds_toArray, List.set_cons_zero, List.set_cons_succ]
  refine wpAnyH_take (i := 1) (oi := ⟨some 10, _, _, _, _, _⟩) (v := ?_) rfl (by kernel_rfl) (by kernel_rfl) (by kernel_rfl) (fun _ _ _ h => h) (Or.inl ⟨by rfl, ?_⟩) (by assumption) ?_
  rotate_left
  · intro w hSw; (try dsimp only at hSw); go_simp; (try with_reducible rfl)
  try simp only [Act.put, List.setIfInBounds_toArray, List.set_cons_zero, List.set_cons_succ]
  refine wpAnyH_take (i := 2) (oi := ⟨some 11, _, _, _, _, _⟩) (v := ?_) rfl (by kernel_rfl) (by kernel_rfl) (by kernel_rfl) (fun _ _ _ h => h) (Or.inl ⟨by rfl, ?_⟩) (by assumption) ?_
  rotate_left
  · intro w hSw; (try dsimp only at hSw); go_simp; (try with_reducible rfl)
  try simp only [Act.put, List.setIfInBounds_toArray, List.set_cons_zero, List.set_cons_succ]
  refine wpAnyH_take (i := 3) (oi := ⟨some 12, _, _, _, _, _⟩) (v := ?_) rfl (by kernel_rfl) (by kernel_rfl) (by kernel_rfl) (fun _ _ _ h => h) (Or.inl ⟨by rfl, ?_⟩) (by assumption) ?_
  rotate_left
  · intro w hSw; have zc := HC0.out _ hSw; (try dsimp only at hSw); go_simp; (try with_reducible rfl)
  try simp only [Act.put, List.setIfInBounds_toArray, List.set_cons_zero, List.set_cons_succ]
  refine wpAnyH_take (i := 4) (oi := ⟨some 13, _, _, _, _, _⟩) (v := ?_) rfl (by kernel_rfl) (by kernel_rfl) (by kernel_rfl) (fun _ _ _ h => h) (Or.inl ⟨by rfl, ?_⟩) (by assumption) ?_
  rotate_left
  · intro w hSw; (try dsimp only at hSw); go_simp; (try with_reducible rfl)
  try simp only [Act.put, List.setIfInBounds_toArray, List.set_cons_zero, List.set_cons_succ]
  refine wpAnyH_take (i := 5) (oi := ⟨some 14, _, _, _, _, _⟩) (v := ?_) rfl (by kernel_rfl) (by kernel_rfl) (by kernel_rfl) (fun _ _ _ h => h) (Or.inl ⟨by rfl, ?_⟩) (by assumption) ?_
  rotate_left
  · intro w hSw; (try dsimp only at hSw); go_simp; (try with_reducible rfl)
  try simp only [Act.put, List.setIfInBounds_toArray, List.set_cons_zero, List.set_cons_succ]
  refine wpAnyH_take (i := 6) (oi := ⟨some 15, _, _, _, _, _⟩) (v := (alV x)) rfl (by kernel_rfl) (by kernel_rfl) (by kernel_rfl) (fun _ _ _ h => h) (yieldsIf_load_at (by rfl) 67 _ rfl ⟨r, i * 2, none⟩ rfl (alL x) _ (fun Y h => HX.out Y h) Try.underlying67 rfl info_alg) (by assumption) ?_
  try simp only [Act.put, List.setIfInBounds_toArray, List.set_cons_zero, List.set_cons_succ]
  refine wpAnyH_take (i := 7) (oi := ⟨some 16, _, _, _, _, _⟩) (v := ?_) rfl (by kernel_rfl) (by kernel_rfl) (by kernel_rfl) (fun _ _ _ h => h) (Or.inl ⟨by rfl, ?_⟩) (by assumption) ?_
  rotate_left
  · intro w hSw; (try dsimp only at hSw); go_simp; (try with_reducible rfl)
  try simp only [Act.put, List.setIfInBounds_toArray, List.set_cons_zero, List.set_cons_succ]
  refine wpAnyH_take (i := 8) (oi := ⟨some 17, _, _, _, _, _⟩) (v := ?_) rfl (by kernel_rfl) (by kernel_rfl) (by kernel_rfl) (fun _ _ _ h => h) (Or.inl ⟨by rfl, ?_⟩) (by assumption) ?_
  rotate_left
  · intro w hSw; (try dsimp only at hSw); go_simp; (try with_reducible rfl)
  try simp only [Act.put, List.setIfInBounds_toArray, List.set_cons_zero, List.set_cons_succ]
  refine wpAnyH_take (i := 9) (oi := ⟨some 18, _, _, _, _, _⟩) (v := ?_) rfl (by kernel_rfl) (by kernel_rfl) (by kernel_rfl) (fun _ _ _ h => h) (Or.inl ⟨by rfl, ?_⟩) (by assumption) ?_
  rotate_left
  · intro w hSw; (try dsimp only at hSw); go_simp; (try with_reducible rfl)
  try simp only [Act.put, List.setIfInBounds_toArray, List.set_cons_zero, List.set_cons_succ]
  refine wpAnyH_take (i := 10) (oi := ⟨some 19, _, _, _, _, _⟩) (v := ?_) rfl (by kernel_rfl) (by kernel_rfl) (by kernel_rfl) (fun _ _ _ h => h) (Or.inl ⟨by rfl, ?_⟩) (by assumption) ?_
  rotate_left
  · intro w hSw; have zc := HC0.out _ hSw; (try dsimp only at hSw); go_simp; (try with_reducible rfl)
  try simp only [Act.put, List.setIfInBounds_toArray, List.set_cons_zero, List.set_cons_succ]
  refine wpAnyH_take (i := 11) (oi := ⟨some 20, _, _, _, _, _⟩) (v := ?_) rfl (by kernel_rfl) (by kernel_rfl) (by kernel_rfl) (fun _ _ _ h => h) (Or.inl ⟨by rfl, ?_⟩) (by assumption) ?_
  rotate_left
  · intro w hSw; (try dsimp only at hSw); go_simp; (try with_reducible rfl)
  try simp only [Act.put, List.setIfInBounds_toArray, List.set_cons_zero, List.set_cons_succ]
  refine wpAnyH_take (i := 12) (oi := ⟨some 21, _, _, _, _, _⟩) (v := ?_) rfl (by kernel_rfl) (by kernel_rfl) (by kernel_rfl) (fun _ _ _ h => h) (Or.inl ⟨by rfl, ?_⟩) (by assumption) ?_
  rotate_left
  · intro w hSw; (try dsimp only at hSw); go_simp; (try with_reducible rfl)
  try simp only [Act.put, List.setIfInBounds_toArray, List.set_cons_zero, List.set_cons_succ]
  refine wpAnyH_take (i := 13) (oi := ⟨some 22, _, _, _, _, _⟩) (v := (alV y)) rfl (by kernel_rfl) (by kernel_rfl) (by kernel_rfl) (fun _ _ _ h => h) (yieldsIf_load_at (by rfl) 67 _ rfl ⟨r, j * 2, none⟩ rfl (alL y) _ (fun Y h => HY.out Y h) Try.underlying67 rfl info_alg) (by assumption) ?_
  try simp only [Act.put, List.setIfInBounds_toArray, List.set_cons_zero, List.set_cons_succ]
  refine wpAnyH_ready (rs := [14, 15]) (by kernel_rfl) (by simp) (AllReadyH.cons (o := ⟨some 7, _, _, _, _, _⟩) rfl (fun Kc hKc => ?_) (AllReadyH.cons (o := ⟨some 8, _, _, _, _, _⟩) rfl (fun Kc hKc => ?_) AllReadyH.nil))
  ·
    have zhq1 := hHeld.size
    rw [if_pos (by rfl)]
    refine step_alloc 67 rfl [.int .i64 0, .int .i64 0] (by kernel_rfl) ?_; intro g7 wq1 hgq1 hbq1 yq1 hzq1; have B7 := Go.Lib.hid hbq1; clear hbq1; obtain ⟨hgq1a, hgq1b⟩ := hgq1; obtain ⟨hzq1a, hzq1b⟩ := hzq1
    have zq1 := yq1.size
    refine hKc.out _ _ (hHeld.trans (yq1.mono hHeld.size)) (fun hHeld => ?_)
    clear hKc Kc
    try simp only [Act.put, List.setIfInBounds_toArray, List.set_cons_zero, List.set_cons_succ]
    refine wpAnyH_ready (rs := [15]) (by kernel_rfl) (by simp) (AllReadyH.cons (o := ⟨some 8, _, _, _, _, _⟩) rfl (fun Kc hKc => ?_) AllReadyH.nil)
    have zhq2 := hHeld.size
    rw [if_pos (by rfl)]
    refine step_alloc 67 rfl [.int .i64 0, .int .i64 0] (by kernel_rfl) ?_; intro g8 wq2 hgq2 hbq2 yq2 hzq2; have B8 := Go.Lib.hid hbq2; clear hbq2; obtain ⟨hgq2a, hgq2b⟩ := hgq2; obtain ⟨hzq2a, hzq2b⟩ := hzq2
    have zq2 := yq2.size
    have B7 := Go.Lib.hid (B7.out.keep yq2 B7.out.lt)
    refine hKc.out _ _ (hHeld.trans (yq2.mono hHeld.size)) (fun hHeld => ?_)
    clear hKc Kc
    try simp only [Act.put, List.setIfInBounds_toArray, List.set_cons_zero, List.set_cons_succ]
    refine wpAnyH_ready (rs := [16]) (by kernel_rfl) (by simp) (AllReadyH.cons (o := ⟨none, _, _, _, _, _⟩) rfl (fun Kc hKc => ?_) AllReadyH.nil)
    have zhq3 := hHeld.size
    rw [if_pos (by rfl)]
    refine step_store_any 67 _ _ rfl g7 0 67 _ (alL x) _ rfl rfl rfl B7.out info_alg (by show 0 + 2 ≤ 2; omega) (by simp [Value.oneCell']) ?_; intro wq3 hbq3 hoq3; have Zq3 := Go.Lib.hid hbq3; clear hbq3
    have zq3 := hoq3.size
    have B7 : Hid (Bxo wq3 g7 67 (alL x)) := Go.Lib.hid Zq3.out
    have B8 := Go.Lib.hid (B8.out.only hoq3 (by omega))
    refine hKc.out _ _ (hHeld.trans (hoq3.below (by omega))) (fun hHeld => ?_)
    clear hKc Kc
    try simp only [Act.put, List.setIfInBounds_toArray, List.set_cons_zero, List.set_cons_succ]
    refine wpAnyH_ready (rs := [17]) (by kernel_rfl) (by simp) (AllReadyH.cons (o := ⟨none, _, _, _, _, _⟩) rfl (fun Kc hKc => ?_) AllReadyH.nil)
    have zhq4 := hHeld.size
    rw [if_pos (by rfl)]
    refine step_store_any 67 _ _ rfl g8 0 67 _ (alL y) _ rfl rfl rfl B8.out info_alg (by show 0 + 2 ≤ 2; omega) (by simp [Value.oneCell']) ?_; intro wq4 hbq4 hoq4; have Zq4 := Go.Lib.hid hbq4; clear hbq4
    have zq4 := hoq4.size
    have B7 := Go.Lib.hid (B7.out.only hoq4 (by omega))
    have B8 : Hid (Bxo wq4 g8 67 (alL y)) := Go.Lib.hid Zq4.out
    refine hKc.out _ _ (hHeld.trans (hoq4.below (by omega))) (fun hHeld => ?_)
    clear hKc Kc
    try simp only [Act.put, List.setIfInBounds_toArray, List.set_cons_zero, List.set_cons_succ]
    refine wpAnyH_done (by kernel_rfl) ?_ _
    have yq := hHeld
    clear hHeld
    have a1 := B7.out.cell 1 rfl
    have a0 := B7.out.cell 0 rfl
    have b1 := B8.out.cell 1 rfl
    have b0 := B8.out.cell 0 rfl
    obtain ⟨xn, xa⟩ := x
    obtain ⟨yn, ya⟩ := y
    by_cases h1 : xa = ya
    · subst h1
      have t0 : (xa != xa) = false := by simp
      have HR : Hid (decide (xn < yn) = q) := Go.Lib.hid (by rw [← HQ.out, Bool.eq_iff_iff, lt_iff]; simp)
      go_wp2
      go_ret
      exact ⟨ret_bool HR.out, yq⟩
    · have t0 : (xa != ya) = true := by simpa using h1
      have HR : Hid (decide (xa < ya) = q) := Go.Lib.hid (by rw [← HQ.out, Bool.eq_iff_iff, lt_iff]; simp; omega)
      go_wp2
      go_ret
      exact ⟨ret_bool HR.out, yq⟩
  ·
    have zhq5 := hHeld.size
    rw [if_pos (by rfl)]
    refine step_alloc 67 rfl [.int .i64 0, .int .i64 0] (by kernel_rfl) ?_; intro g8 wq5 hgq5 hbq5 yq5 hzq5; have B8 := Go.Lib.hid hbq5; clear hbq5; obtain ⟨hgq5a, hgq5b⟩ := hgq5; obtain ⟨hzq5a, hzq5b⟩ := hzq5
    have zq5 := yq5.size
    refine hKc.out _ _ (hHeld.trans (yq5.mono hHeld.size)) (fun hHeld => ?_)
    clear hKc Kc
    try simp only [Act.put, List.setIfInBounds_toArray, List.set_cons_zero, List.set_cons_succ]
    refine wpAnyH_ready (rs := [14]) (by kernel_rfl) (by simp) (AllReadyH.cons (o := ⟨some 7, _, _, _, _, _⟩) rfl (fun Kc hKc => ?_) AllReadyH.nil)
    have zhq6 := hHeld.size
    rw [if_pos (by rfl)]
    refine step_alloc 67 rfl [.int .i64 0, .int .i64 0] (by kernel_rfl) ?_; intro g7 wq6 hgq6 hbq6 yq6 hzq6; have B7 := Go.Lib.hid hbq6; clear hbq6; obtain ⟨hgq6a, hgq6b⟩ := hgq6; obtain ⟨hzq6a, hzq6b⟩ := hzq6
    have zq6 := yq6.size
    have B8 := Go.Lib.hid (B8.out.keep yq6 B8.out.lt)
    refine hKc.out _ _ (hHeld.trans (yq6.mono hHeld.size)) (fun hHeld => ?_)
    clear hKc Kc
    try simp only [Act.put, List.setIfInBounds_toArray, List.set_cons_zero, List.set_cons_succ]
    refine wpAnyH_ready (rs := [16]) (by kernel_rfl) (by simp) (AllReadyH.cons (o := ⟨none, _, _, _, _, _⟩) rfl (fun Kc hKc => ?_) AllReadyH.nil)
    have zhq7 := hHeld.size
    rw [if_pos (by rfl)]
    refine step_store_any 67 _ _ rfl g7 0 67 _ (alL x) _ rfl rfl rfl B7.out info_alg (by show 0 + 2 ≤ 2; omega) (by simp [Value.oneCell']) ?_; intro wq7 hbq7 hoq7; have Zq7 := Go.Lib.hid hbq7; clear hbq7
    have zq7 := hoq7.size
    have B8 := Go.Lib.hid (B8.out.only hoq7 (by omega))
    have B7 : Hid (Bxo wq7 g7 67 (alL x)) := Go.Lib.hid Zq7.out
    refine hKc.out _ _ (hHeld.trans (hoq7.below (by omega))) (fun hHeld => ?_)
    clear hKc Kc
    try simp only [Act.put, List.setIfInBounds_toArray, List.set_cons_zero, List.set_cons_succ]
    refine wpAnyH_ready (rs := [17]) (by kernel_rfl) (by simp) (AllReadyH.cons (o := ⟨none, _, _, _, _, _⟩) rfl (fun Kc hKc => ?_) AllReadyH.nil)
    have zhq8 := hHeld.size
    rw [if_pos (by rfl)]
    refine step_store_any 67 _ _ rfl g8 0 67 _ (alL y) _ rfl rfl rfl B8.out info_alg (by show 0 + 2 ≤ 2; omega) (by simp [Value.oneCell']) ?_; intro wq8 hbq8 hoq8; have Zq8 := Go.Lib.hid hbq8; clear hbq8
    have zq8 := hoq8.size
    have B8 : Hid (Bxo wq8 g8 67 (alL y)) := Go.Lib.hid Zq8.out
    have B7 := Go.Lib.hid (B7.out.only hoq8 (by omega))
    refine hKc.out _ _ (hHeld.trans (hoq8.below (by omega))) (fun hHeld => ?_)
    clear hKc Kc
    try simp only [Act.put, List.setIfInBounds_toArray, List.set_cons_zero, List.set_cons_succ]
    refine wpAnyH_done (by kernel_rfl) ?_ _
    have yq := hHeld
    clear hHeld
    have a1 := B7.out.cell 1 rfl
    have a0 := B7.out.cell 0 rfl
    have b1 := B8.out.cell 1 rfl
    have b0 := B8.out.cell 0 rfl
    obtain ⟨xn, xa⟩ := x
    obtain ⟨yn, ya⟩ := y
    by_cases h1 : xa = ya
    · subst h1
      have t0 : (xa != xa) = false := by simp
      have HR : Hid (decide (xn < yn) = q) := Go.Lib.hid (by rw [← HQ.out, Bool.eq_iff_iff, lt_iff]; simp)
      go_wp2
      go_ret
      exact ⟨ret_bool HR.out, yq⟩
    · have t0 : (xa != ya) = true := by simpa using h1
      have HR : Hid (decide (xa < ya) = q) := Go.Lib.hid (by rw [← HQ.out, Bool.eq_iff_iff, lt_iff]; simp; omega)
      go_wp2
      go_ret
      exact ⟨ret_bool HR.out, yq⟩
end Go.Proofs.Ytebmomanpkmloaa
