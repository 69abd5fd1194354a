/- Lemmas, several texts in one. -/
import Derived.Test.YtofpalmghdapkaaQ04
import Derived.Test.YtofpalmghdapkaaQ09
/- A wheel as a heap in a struct, its places in a map: its memory; Len, Less. -/
namespace Go.Proofs.Ytofpalmghdapkaa
open Go.ChangeShapes Go.WideShapes Go.ChangeAt Go.RowKit
set_option linter.unusedVariables false
set_option linter.unusedSimpArgs false

theorem info_alg : (Try.prog.info? 104).map (·.size) = some 2 := by kernel_rfl
abbrev alV (a : Al) : Value := .agg #[.int .i64 a.num, .int .i64 a.at_]
/-- the wheel's memory: a struct in block g, a row of alarms, a map of places. -/
structure GR (w : World) (g : Nat) (l : List Al) (now : Int) (F : Nat → Prop) (A : Option Addr) (c mb : Nat) : Prop where
  box : Bxo w g 96 [.slice A l.length c, .map (some mb), .int .i64 now]
  row : w.ownsRow 0 104 2 (.slice A l.length c) l.length (l.flatMap Al.L)
  map : PmAt w mb (findH l) l.length
  blocks : ∀ b, F b ↔ (b = g ∨ b = mb ∨ blk A = some b)
  g1 : g ≠ mb
  g2 : blk A ≠ some g
  g3 : blk A ≠ some mb
  once : OnceA l
  rng : ∀ a ∈ l, 0 ≤ a.num ∧ a.num ≤ 2147483647
  size : l.length ≤ 256
section
variable {w w' : World} {g : Nat} {l : List Al} {now : Int} {F : Nat → Prop} {A : Option Addr} {c mb : Nat}
theorem GR.lt (h : GR w g l now F A c mb) (b : Nat) (hb : F b) : b < w.heap.size := by
  rcases (h.blocks b).1 hb with rfl | rfl | e
  · exact h.box.lt
  · exact h.map.lt
  · exact own_ltI h.row b e
theorem GR.keep (h : GR w g l now F A c mb) (hk : ∀ b, F b → w'.heap[b]? = w.heap[b]?) : GR w' g l now F A c mb :=
  ⟨(hk g ((h.blocks g).2 (.inl rfl))).trans h.box, own_keepA h.row (fun b e => hk b ((h.blocks b).2 (.inr (.inr e)))), h.map.keep (hk mb ((h.blocks mb).2 (.inr (.inl rfl)))), h.blocks, h.g1, h.g2, h.g3, h.once, h.rng, h.size⟩
theorem GR.call (h : GR w g l now F A c mb) (y : Below w.heap.size w w') : GR w' g l now F A c mb := h.keep fun b hb => y.block b (h.lt b hb)
/-- an alarm's cells. -/
theorem GR.cell (h : GR w g l now F A c mb) {i : Nat} (hi : i < l.length) : ∃ r, A = some ⟨r, 0, none⟩ ∧ r < w.heap.size ∧ ∀ Y : World, Y.heap[r]? = w.heap[r]? → ∀ j v, (alL (atA l i))[j]? = some v → Y.cell? ((⟨r, i * 2, none⟩ : Addr).add j) = some v := by
  rcases own_addr h.row with ⟨_, h0, _⟩ | ⟨r, e, _, hr⟩
  · omega
  · refine ⟨r, e, hr, fun Y hY j v hv => ?_⟩
    have hrow := h.row
    rw [e] at hrow
    have hk := own_keep (w' := Y) hrow hY
    have hj : j < 2 := by have := (List.getElem?_eq_some_iff.1 hv).1; simpa using this
    have h1 : (l.flatMap Al.L)[i * 2 + j]? = some v := by
      rw [flat_get Al.L 2 Al.len l i j hi hj, ← atA_get hi]; exact hv
    rw [Addr.add_mid, own_cells hk (i * 2 + j) (by have : (i + 1) * 2 ≤ l.length * 2 := Nat.mul_le_mul_right 2 hi; omega)]
    exact h1
end
set_option maxHeartbeats 400000 in
theorem glen {w : World} {g : Nat} {l : List Al} {now : Int} {F : Nat → Prop} {A : Option Addr} {c mb : Nat} (h : GR w g l now F A c mb) (n : Nat) (hn : l.length = n) :
    Calls Try.prog 83 #[.pointer (some ⟨g, 0, none⟩)] w fun e w' => e = .returned (.int .i64 n) ∧ Below w.heap.size w w' := by
  have c0 := h.box.cell 0 rfl
  rw [hn] at c0
  clear h hn
  go_enter Try.func83, Try.ntmps83
  go_wp2
  go_ret
  exact ⟨rfl, Below.refl _ _⟩
set_option maxRecDepth 100000 in
set_option maxHeartbeats 4000000 in
theorem gless {w : World} {g : Nat} {l : List Al} {now : Int} {F : Nat → Prop} {A : Option Addr} {c mb : Nat} (h : GR w g l now F A c mb) (i j : Nat) (q : Bool) (hi : i < l.length) (hj : j < l.length) (hq : ltA (atA l i) (atA l j) = q) :
    Calls Try.prog 84 #[.pointer (some ⟨g, 0, none⟩), .int .i64 i, .int .i64 j] w fun e w' => e = .returned (.bool q) ∧ Below w.heap.size w w' := by
  obtain ⟨r, rfl, hr, hci⟩ := h.cell hi
  obtain ⟨r', e', _, hcj⟩ := h.cell hj
  cases e'
  have HB := Go.Lib.hid h.box
  have hnc := (own_cap h.row).1
  obtain ⟨n, hn⟩ : ∃ n, l.length = n := ⟨_, rfl⟩
  rw [hn] at hi hj HB hnc
  obtain ⟨x, hx⟩ : ∃ x, atA l i = x := ⟨_, rfl⟩
  obtain ⟨y, hy⟩ : ∃ y, atA l j = y := ⟨_, rfl⟩
  rw [hx, hy] at hq
  rw [hx] at hci
  rw [hy] at hcj
  have HX : Hid (∀ Y, Below w.heap.size w Y → ∀ j v, (alL x)[j]? = some v → Y.cell? ((⟨r, i * 2, none⟩ : Addr).add j) = some v) := Go.Lib.hid (fun Y y => hci Y (y.block r hr))
  have HY : Hid (∀ Y, Below w.heap.size w Y → ∀ k v, (alL y)[k]? = some v → Y.cell? ((⟨r, j * 2, none⟩ : Addr).add k) = some v) := Go.Lib.hid (fun Y y => hcj Y (y.block r hr))
  have HQ := Go.Lib.hid hq
  have HC0 : Hid (∀ Y, Below w.heap.size w Y → Y.cell? ⟨g, 0, none⟩ = some (.slice (some ⟨r, 0, none⟩) n c)) := Go.Lib.hid (fun Y y => (HB.out.keep y HB.out.lt).cell 0 rfl)
  have i1 : (0 : Int) ≤ (i : Int) := by omega
  have i2 : (i : Int) < (n : Int) := by omega
  have j1 : (0 : Int) ≤ (j : Int) := by omega
  have j2 : (j : Int) < (n : Int) := by omega
  clear h hci hcj hq hx hy hn
  go_enter Try.func84, Try.ntmps84
  go_upto_region 1 with fail
  try simp only [Act.put, List.setIfInBounds_toArray, List.set_cons_zero, List.set_cons_succ]
  refine wp_region_held_drew (S := fun Y => Below w.heap.size w Y) (by kernel_rfl) ?_ (fun hHeld => ?_)
  · exact below_drew (Below.refl _ _)
  have zd : w.drew.heap.size ≤ w.heap.size := Nat.le_refl _; have zd2 : w.heap.size ≤ w.drew.heap.size := Nat.le_refl _
  refine wpAnyH_take (i := 0) (oi := ⟨some 9, _, _, _, _, _⟩) (v := ?_) rfl (by kernel_rfl) (by kernel_rfl) (by kernel_rfl) (fun _ _ _ h => h) (Or.inl ⟨by rfl, ?_⟩) (by assumption) ?_
  rotate_left
  · intro w hSw; (try dsimp only at hSw); go_simp; (try with_reducible rfl)
  try simp only [Act.put, List.setIfInBounds_toArray, List.set_cons_zero, List.set_cons_succ]
  refine wpAnyH_take (i := 1) (oi := ⟨some 10, _, _, _, _, _⟩) (v := ?_) rfl (by kernel_rfl) (by kernel_rfl) (by kernel_rfl) (fun _ _ _ h => h) (Or.inl ⟨by rfl, ?_⟩) (by assumption) ?_
  rotate_left
  · intro w hSw; (try dsimp only at hSw); go_simp; (try with_reducible rfl)
  try simp only [Act.put, List.setIfInBounds_toArray, List.set_cons_zero, List.set_cons_succ]
  refine wpAnyH_take (i := 2) (oi := ⟨some 11, _, _, _, _, _⟩) (v := ?_) rfl (by kernel_rfl) (by kernel_rfl) (by kernel_rfl) (fun _ _ _ h => h) (Or.inl ⟨by rfl, ?_⟩) (by assumption) ?_
  rotate_left
  · intro w hSw; (try dsimp only at hSw); go_simp; (try with_reducible rfl)
  try simp only [Act.put, List.setIfInBounds_toArray, List.set_cons_zero, List.set_cons_succ]
  refine wpAnyH_take (i := 3) (oi := ⟨some 12, _, _, _, _, _⟩) (v := ?_) rfl (by kernel_rfl) (by kernel_rfl) (by kernel_rfl) (fun _ _ _ h => h) (Or.inl ⟨by rfl, ?_⟩) (by assumption) ?_
  rotate_left
  · intro w hSw; have zc := HC0.out _ hSw; (try dsimp only at hSw); go_simp; (try with_reducible rfl)
  try simp only [Act.put, List.setIfInBounds_toArray, List.set_cons_zero, List.set_cons_succ]
  refine wpAnyH_take (i := 4) (oi := ⟨some 13, _, _, _, _, _⟩) (v := ?_) rfl (by kernel_rfl) (by kernel_rfl) (by kernel_rfl) (fun _ _ _ h => h) (Or.inl ⟨by rfl, ?_⟩) (by assumption) ?_
  rotate_left
  · intro w hSw; (try dsimp only at hSw); go_simp; (try with_reducible rfl)
  try simp only [Act.put, List.setIfInBounds_toArray, List.set_cons_zero, List.set_cons_succ]
  refine wpAnyH_take (i := 5) (oi := ⟨some 14, _, _, _, _, _⟩) (v := ?_) rfl (by kernel_rfl) (by kernel_rfl) (by kernel_rfl) (fun _ _ _ h => h) (Or.inl ⟨by rfl, ?_⟩) (by assumption) ?_
  rotate_left
  · intro w hSw; (try dsimp only at hSw); go_simp; (try with_reducible rfl)
  try simp only [Act.put, List.setIfInBounds_toArray, List.set_cons_zero, List.set_cons_succ]
  refine wpAnyH_take (i := 6) (oi := ⟨some 15, _, _, _, _, _⟩) (v := (alV x)) rfl (by kernel_rfl) (by kernel_rfl) (by kernel_rfl) (fun _ _ _ h => h) (yieldsIf_load_at (by rfl) 104 _ rfl ⟨r, i * 2, none⟩ rfl (alL x) _ (fun Y h => HX.out Y h) Try.underlying104 rfl info_alg) (by assumption) ?_
  try simp only [Act.put, List.setIfInBounds_toArray, List.set_cons_zero, List.set_cons_succ]
  refine wpAnyH_take (i := 7) (oi := ⟨some 16, _, _, _, _, _⟩) (v := ?_) rfl (by kernel_rfl) (by kernel_rfl) (by kernel_rfl) (fun _ _ _ h => h) (Or.inl ⟨by rfl, ?_⟩) (by assumption) ?_
  rotate_left
  · intro w hSw; (try dsimp only at hSw); go_simp; (try with_reducible rfl)
  try simp only [Act.put, List.setIfInBounds_toArray, List.set_cons_zero, List.set_cons_succ]
  refine wpAnyH_take (i := 8) (oi := ⟨some 17, _, _, _, _, _⟩) (v := ?_) rfl (by kernel_rfl) (by kernel_rfl) (by kernel_rfl) (fun _ _ _ h => h) (Or.inl ⟨by rfl, ?_⟩) (by assumption) ?_
  rotate_left
  · intro w hSw; (try dsimp only at hSw); go_simp; (try with_reducible rfl)
  try simp only [Act.put, List.setIfInBounds_toArray, List.set_cons_zero, List.set_cons_succ]
  refine wpAnyH_take (i := 9) (oi := ⟨some 18, _, _, _, _, _⟩) (v := ?_) rfl (by kernel_rfl) (by kernel_rfl) (by kernel_rfl) (fun _ _ _ h => h) (Or.inl ⟨by rfl, ?_⟩) (by assumption) ?_
  rotate_left
  · intro w hSw; (try dsimp only at hSw); go_simp; (try with_reducible rfl)
  try simp only [Act.put, List.setIfInBounds_toArray, List.set_cons_zero, List.set_cons_succ]
  refine wpAnyH_take (i := 10) (oi := ⟨some 19, _, _, _, _, _⟩) (v := ?_) rfl (by kernel_rfl) (by kernel_rfl) (by kernel_rfl) (fun _ _ _ h => h) (Or.inl ⟨by rfl, ?_⟩) (by assumption) ?_
  rotate_left
  · intro w hSw; have zc := HC0.out _ hSw; (try dsimp only at hSw); go_simp; (try with_reducible rfl)
  try simp only [Act.put, List.setIfInBounds_toArray, List.set_cons_zero, List.set_cons_succ]
  refine wpAnyH_take (i := 11) (oi := ⟨some 20, _, _, _, _, _⟩) (v := ?_) rfl (by kernel_rfl) (by kernel_rfl) (by kernel_rfl) (fun _ _ _ h => h) (Or.inl ⟨by rfl, ?_⟩) (by assumption) ?_
  rotate_left
  · intro w hSw; (try dsimp only at hSw); go_simp; (try with_reducible rfl)
  try simp only [Act.put, List.setIfInBounds_toArray, List.set_cons_zero, List.set_cons_succ]
  refine wpAnyH_take (i := 12) (oi := ⟨some 21, _, _, _, _, _⟩) (v := ?_) rfl (by kernel_rfl) (by kernel_rfl) (by kernel_rfl) (fun _ _ _ h => h) (Or.inl ⟨by rfl, ?_⟩) (by assumption) ?_
  rotate_left
  · intro w hSw; (try dsimp only at hSw); go_simp; (try with_reducible rfl)
  try simp only [Act.put, List.setIfInBounds_toArray, List.set_cons_zero, List.set_cons_succ]
  refine wpAnyH_take (i := 13) (oi := ⟨some 22, _, _, _, _, _⟩) (v := (alV y)) rfl (by kernel_rfl) (by kernel_rfl) (by kernel_rfl) (fun _ _ _ h => h) (yieldsIf_load_at (by rfl) 104 _ rfl ⟨r, j * 2, none⟩ rfl (alL y) _ (fun Y h => HY.out Y h) Try.underlying104 rfl info_alg) (by assumption) ?_
  try simp only [Act.put, List.setIfInBounds_toArray, List.set_cons_zero, List.set_cons_succ]
  refine wpAnyH_ready (rs := [14, 15]) (by kernel_rfl) (by simp) (AllReadyH.cons (o := ⟨some 7, _, _, _, _, _⟩) rfl (fun Kc hKc => ?_) (AllReadyH.cons (o := ⟨some 8, _, _, _, _, _⟩) rfl (fun Kc hKc => ?_) AllReadyH.nil))
  ·
    have zhq1 := hHeld.size
    rw [if_pos (by rfl)]
    refine step_alloc 104 rfl [.int .i64 0, .int .i64 0] (by kernel_rfl) ?_; intro g7 wq1 hgq1 hbq1 yq1 hzq1; have B7 := Go.Lib.hid hbq1; clear hbq1; obtain ⟨hgq1a, hgq1b⟩ := hgq1; obtain ⟨hzq1a, hzq1b⟩ := hzq1
    have zq1 := yq1.size
    refine hKc.out _ _ (hHeld.trans (yq1.mono hHeld.size)) (fun hHeld => ?_)
    clear hKc Kc
    try simp only [Act.put, List.setIfInBounds_toArray, List.set_cons_zero, List.set_cons_succ]
    refine wpAnyH_ready (rs := [15]) (by kernel_rfl) (by simp) (AllReadyH.cons (o := ⟨some 8, _, _, _, _, _⟩) rfl (fun Kc hKc => ?_) AllReadyH.nil)
    have zhq2 := hHeld.size
    rw [if_pos (by rfl)]
    refine step_alloc 104 rfl [.int .i64 0, .int .i64 0] (by kernel_rfl) ?_; intro g8 wq2 hgq2 hbq2 yq2 hzq2; have B8 := Go.Lib.hid hbq2; clear hbq2; obtain ⟨hgq2a, hgq2b⟩ := hgq2; obtain ⟨hzq2a, hzq2b⟩ := hzq2
    have zq2 := yq2.size
    have B7 := Go.Lib.hid (B7.out.keep yq2 B7.out.lt)
    refine hKc.out _ _ (hHeld.trans (yq2.mono hHeld.size)) (fun hHeld => ?_)
    clear hKc Kc
    try simp only [Act.put, List.setIfInBounds_toArray, List.set_cons_zero, List.set_cons_succ]
    refine wpAnyH_ready (rs := [16]) (by kernel_rfl) (by simp) (AllReadyH.cons (o := ⟨none, _, _, _, _, _⟩) rfl (fun Kc hKc => ?_) AllReadyH.nil)
    have zhq3 := hHeld.size
    rw [if_pos (by rfl)]
    refine step_store_any 104 _ _ rfl g7 0 104 _ (alL x) _ rfl rfl rfl B7.out info_alg (by show 0 + 2 ≤ 2; omega) (by simp [Value.oneCell']) ?_; intro wq3 hbq3 hoq3; have Zq3 := Go.Lib.hid hbq3; clear hbq3
    have zq3 := hoq3.size
    have B7 : Hid (Bxo wq3 g7 104 (alL x)) := Go.Lib.hid Zq3.out
    have B8 := Go.Lib.hid (B8.out.only hoq3 (by omega))
    refine hKc.out _ _ (hHeld.trans (hoq3.below (by omega))) (fun hHeld => ?_)
    clear hKc Kc
    try simp only [Act.put, List.setIfInBounds_toArray, List.set_cons_zero, List.set_cons_succ]
    refine wpAnyH_ready (rs := [17]) (by kernel_rfl) (by simp) (AllReadyH.cons (o := ⟨none, _, _, _, _, _⟩) rfl (fun Kc hKc => ?_) AllReadyH.nil)
    have zhq4 := hHeld.size
    rw [if_pos (by rfl)]
    refine step_store_any 104 _ _ rfl g8 0 104 _ (alL y) _ rfl rfl rfl B8.out info_alg (by show 0 + 2 ≤ 2; omega) (by simp [Value.oneCell']) ?_; intro wq4 hbq4 hoq4; have Zq4 := Go.Lib.hid hbq4; clear hbq4
    have zq4 := hoq4.size
    have B7 := Go.Lib.hid (B7.out.only hoq4 (by omega))
    have B8 : Hid (Bxo wq4 g8 104 (alL y)) := Go.Lib.hid Zq4.out
    refine hKc.out _ _ (hHeld.trans (hoq4.below (by omega))) (fun hHeld => ?_)
    clear hKc Kc
    try simp only [Act.put, List.setIfInBounds_toArray, List.set_cons_zero, List.set_cons_succ]
    refine wpAnyH_done (by kernel_rfl) ?_ _
    have yq := hHeld
    clear hHeld
    have a1 := B7.out.cell 1 rfl
    have a0 := B7.out.cell 0 rfl
    have b1 := B8.out.cell 1 rfl
    have b0 := B8.out.cell 0 rfl
    obtain ⟨xn, xa⟩ := x
    obtain ⟨yn, ya⟩ := y
    by_cases h1 : xa = ya
    · subst h1
      have t0 : (xa != xa) = false := by simp
      have HR : Hid (decide (xn < yn) = q) := Go.Lib.hid (by rw [← HQ.out, Bool.eq_iff_iff, lt_iff]; simp)
      go_wp2
      go_ret
      exact ⟨ret_bool HR.out, yq⟩
    · have t0 : (xa != ya) = true := by simpa using h1
      have HR : Hid (decide (xa < ya) = q) := Go.Lib.hid (by rw [← HQ.out, Bool.eq_iff_iff, lt_iff]; simp; omega)
      go_wp2
      go_ret
      exact ⟨ret_bool HR.out, yq⟩
  ·
    have zhq5 := hHeld.size
    rw [if_pos (by rfl)]
    refine step_alloc 104 rfl [.int .i64 0, .int .i64 0] (by kernel_rfl) ?_; intro g8 wq5 hgq5 hbq5 yq5 hzq5; have B8 := Go.Lib.hid hbq5; clear hbq5; obtain ⟨hgq5a, hgq5b⟩ := hgq5; obtain ⟨hzq5a, hzq5b⟩ := hzq5
    have zq5 := yq5.size
    refine hKc.out _ _ (hHeld.trans (yq5.mono hHeld.size)) (fun hHeld => ?_)
    clear hKc Kc
    try simp only [Act.put, List.setIfInBounds_toArray, List.set_cons_zero, List.set_cons_succ]
    refine wpAnyH_ready (rs := [14]) (by kernel_rfl) (by simp) (AllReadyH.cons (o := ⟨some 7, _, _, _, _, _⟩) rfl (fun Kc hKc => ?_) AllReadyH.nil)
    have zhq6 := hHeld.size
    rw [if_pos (by rfl)]
    refine step_alloc 104 rfl [.int .i64 0, .int .i64 0] (by kernel_rfl) ?_; intro g7 wq6 hgq6 hbq6 yq6 hzq6; have B7 := Go.Lib.hid hbq6; clear hbq6; obtain ⟨hgq6a, hgq6b⟩ := hgq6; obtain ⟨hzq6a, hzq6b⟩ := hzq6
    have zq6 := yq6.size
    have B8 := Go.Lib.hid (B8.out.keep yq6 B8.out.lt)
    refine hKc.out _ _ (hHeld.trans (yq6.mono hHeld.size)) (fun hHeld => ?_)
    clear hKc Kc
    try simp only [Act.put, List.setIfInBounds_toArray, List.set_cons_zero, List.set_cons_succ]
    refine wpAnyH_ready (rs := [16]) (by kernel_rfl) (by simp) (AllReadyH.cons (o := ⟨none, _, _, _, _, _⟩) rfl (fun Kc hKc => ?_) AllReadyH.nil)
    have zhq7 := hHeld.size
    rw [if_pos (by rfl)]
    refine step_store_any 104 _ _ rfl g7 0 104 _ (alL x) _ rfl rfl rfl B7.out info_alg (by show 0 + 2 ≤ 2; omega) (by simp [Value.oneCell']) ?_; intro wq7 hbq7 hoq7; have Zq7 := Go.Lib.hid hbq7; clear hbq7
    have zq7 := hoq7.size
    have B8 := Go.Lib.hid (B8.out.only hoq7 (by omega))
    have B7 : Hid (Bxo wq7 g7 104 (alL x)) := Go.Lib.hid Zq7.out
    refine hKc.out _ _ (hHeld.trans (hoq7.below (by omega))) (fun hHeld => ?_)
    clear hKc Kc
    try simp only [Act.put, List.setIfInBounds_toArray, List.set_cons_zero, List.set_cons_succ]
    refine wpAnyH_ready (rs := [17]) (by kernel_rfl) (by simp) (AllReadyH.cons (o := ⟨none, _, _, _, _, _⟩) rfl (fun Kc hKc => ?_) AllReadyH.nil)
    have zhq8 := hHeld.size
    rw [if_pos (by rfl)]
    refine step_store_any 104 _ _ rfl g8 0 104 _ (alL y) _ rfl rfl rfl B8.out info_alg (by show 0 + 2 ≤ 2; omega) (by simp [Value.oneCell']) ?_; intro wq8 hbq8 hoq8; have Zq8 := Go.Lib.hid hbq8; clear hbq8
    have zq8 := hoq8.size
    have B8 : Hid (Bxo wq8 g8 104 (alL y)) := Go.Lib.hid Zq8.out
    have B7 := Go.Lib.hid (B7.out.only hoq8 (by omega))
    refine hKc.out _ _ (hHeld.trans (hoq8.below (by omega))) (fun hHeld => ?_)
    clear hKc Kc
    try simp only [Act.put, List.setIfInBounds_toArray, List.set_cons_zero, List.set_cons_succ]
    refine wpAnyH_done (by kernel_rfl) ?_ _
    have yq := hHeld
    clear hHeld
    have a1 := B7.out.cell 1 rfl
    have a0 := B7.out.cell 0 rfl
    have b1 := B8.out.cell 1 rfl
    have b0 := B8.out.cell 0 rfl
    obtain ⟨xn, xa⟩ := x
    obtain ⟨yn, ya⟩ := y
    by_cases h1 : xa = ya
    · subst h1
      have t0 : (xa != xa) = false := by simp
      have HR : Hid (decide (xn < yn) = q) := Go.Lib.hid (by rw [← HQ.out, Bool.eq_iff_iff, lt_iff]; simp)
      go_wp2
      go_ret
      exact ⟨ret_bool HR.out, yq⟩
    · have t0 : (xa != ya) = true := by simpa using h1
      have HR : Hid (decide (xa < ya) = q) := Go.Lib.hid (by rw [← HQ.out, Bool.eq_iff_iff, lt_iff]; simp; omega)
      go_wp2
      go_ret
      exact ⟨ret_bool HR.out, yq⟩
end Go.Proofs.Ytofpalmghdapkaa

/- A wheel as a heap in a struct, its places in a map: Swap. -/
namespace Go.Proofs.Ytofpalmghdapkaa
open Go.ChangeShapes Go.WideShapes Go.ChangeAt Go.RowKit
set_option linter.unusedVariables false
set_option linter.unusedSimpArgs false

theorem gro_moves {b : Nat} {w w' : World} {F : Nat → Prop} (h : Gro b w w') (hb : F b) : Moves w w' F := ⟨h.os, h.tape, h.output, h.size, fun k hk hn => h.block k hk (fun e => hn (e ▸ hb))⟩
/-- what of a wheel's memory doesn't hang on its alarms' order. -/
structure GRo (g : Nat) (l : List Al) (F : Nat → Prop) (A : Option Addr) (mb : Nat) : Prop where
  blocks : ∀ b, F b ↔ (b = g ∨ b = mb ∨ blk A = some b)
  g1 : g ≠ mb
  g2 : blk A ≠ some g
  g3 : blk A ≠ some mb
  once : OnceA l
  rng : ∀ a ∈ l, 0 ≤ a.num ∧ a.num ≤ 2147483647
  size : l.length ≤ 256
theorem GR.o {w : World} {g : Nat} {l : List Al} {now : Int} {F : Nat → Prop} {A : Option Addr} {c mb : Nat} (h : GR w g l now F A c mb) : GRo g l F A mb := ⟨h.blocks, h.g1, h.g2, h.g3, h.once, h.rng, h.size⟩
theorem GRo.perm {g : Nat} {l l' : List Al} {F : Nat → Prop} {A : Option Addr} {mb : Nat} (h : GRo g l F A mb) (hp : l'.Perm l) : GRo g l' F A mb := ⟨h.blocks, h.g1, h.g2, h.g3, h.once.perm hp, fun a ha => h.rng a (hp.mem_iff.1 ha), by rw [hp.length_eq]; exact h.size⟩
theorem GR.mk' {w : World} {g : Nat} {l : List Al} {now : Int} {F : Nat → Prop} {A : Option Addr} {c mb n : Nat} (hn : l.length = n) (hb : Bxo w g 96 [.slice A n c, .map (some mb), .int .i64 now]) (hr : w.ownsRow 0 104 2 (.slice A n c) n (l.flatMap Al.L)) (hm : PmAt w mb (findH l) n) (h : GRo g l F A mb) : GR w g l now F A c mb := by
  subst hn
  exact ⟨hb, hr, hm, h.blocks, h.g1, h.g2, h.g3, h.once, h.rng, h.size⟩
theorem some_ne {r b : Nat} (h : (some r : Option Nat) ≠ some b) : r ≠ b := fun e => h (by rw [e])
set_option maxRecDepth 100000 in
set_option maxHeartbeats 8000000 in
theorem gswap {w : World} {g : Nat} {l : List Al} {now : Int} {F : Nat → Prop} {A : Option Addr} {c mb : Nat} (h : GR w g l now F A c mb) (i j : Nat) (hi : i < l.length) (hj : j < l.length) :
    Calls Try.prog 87 #[.pointer (some ⟨g, 0, none⟩), .int .i64 i, .int .i64 j] w fun e w' => e = .returned (.tuple #[]) ∧ GR w' g (swA l i j) now F A c mb ∧ Moves w w' F := by
  obtain ⟨r, rfl, hr, hci⟩ := h.cell hi
  obtain ⟨r', e', _, hcj⟩ := h.cell hj
  cases e'
  have HGR := Go.Lib.hid (h.o.perm (sw_perm hi hj))
  have hnc := (own_cap h.row).1
  have hsz := h.size
  have hgm := h.g1
  have hrg : r ≠ g := some_ne h.g2
  have hrm : r ≠ mb := some_ne h.g3
  have HF : Hid (F r ∧ F mb) := Go.Lib.hid ⟨(h.blocks r).2 (.inr (.inr rfl)), (h.blocks mb).2 (.inr (.inl rfl))⟩
  have hsw := find_sw h.once hi hj
  have hnx := (h.once.at_iff (atA l i).num i).2 ⟨hi, rfl⟩
  have hny := (h.once.at_iff (atA l j).num j).2 ⟨hj, rfl⟩
  have hrx := h.rng _ (List.getElem_mem hi)
  have hry := h.rng _ (List.getElem_mem hj)
  rw [← atA_get hi] at hrx
  rw [← atA_get hj] at hry
  have hat := sw_at hi hj
  have HSP1 : Hid (spl (l.flatMap Al.L) (i * 2) (alL (atA l j)) = (l.set i (atA l j)).flatMap Al.L) := Go.Lib.hid (spl_flat Al.L 2 Al.len l i (atA l j) hi)
  have HSP2 : Hid (spl ((l.set i (atA l j)).flatMap Al.L) (j * 2) (alL (atA l i)) = (swA l i j).flatMap Al.L) := Go.Lib.hid (spl_flat Al.L 2 Al.len (l.set i (atA l j)) j (atA l i) (by rw [List.length_set]; exact hj))
  have hfi := flat_get Al.L 2 Al.len (swA l i j) i 0 (by rw [sw_len]; exact hi) (by omega)
  have hfj := flat_get Al.L 2 Al.len (swA l i j) j 0 (by rw [sw_len]; exact hj) (by omega)
  rw [← atA_get (by rw [sw_len]; exact hi), hat i] at hfi
  rw [← atA_get (by rw [sw_len]; exact hj), hat j] at hfj
  rw [if_pos rfl] at hfj
  have hfi : ((swA l i j).flatMap Al.L)[i * 2]? = some (.int .i64 (atA l j).num) := by
    rw [Nat.add_zero] at hfi
    rw [hfi]
    by_cases e : j = i
    · rw [if_pos e, e]; rfl
    · rw [if_neg e, if_pos rfl]; rfl
  have hfj : ((swA l i j).flatMap Al.L)[j * 2]? = some (.int .i64 (atA l i).num) := by rw [Nat.add_zero] at hfj; rw [hfj]; rfl
  have HNL0 := sw_len l i j
  obtain ⟨n, hn⟩ : ∃ n, l.length = n := ⟨_, rfl⟩
  have HB : Hid (Bxo w g 96 [.slice (some ⟨r, 0, none⟩) n c, .map (some mb), .int .i64 now]) := Go.Lib.hid (by rw [← hn]; exact h.box)
  have HRW : Hid (w.ownsRow 0 104 2 (.slice (some ⟨r, 0, none⟩) n c) n (l.flatMap Al.L)) := Go.Lib.hid (by rw [← hn]; exact h.row)
  have HP2_ : PmAt w mb (findH l) n := by rw [← hn]; exact h.map
  have HP := Go.Lib.hid HP2_
  rw [hn] at hi hj hsz hnc HNL0
  have HNL := Go.Lib.hid HNL0
  obtain ⟨cur, k1, k2, _⟩ := own_open HRW.out
  have HD : Hid (Bxo w.drew r 104 cur) := Go.Lib.hid k1.drew
  have hi2 : i * 2 + (2 : Nat) ≤ cur.length := by rw [k2]; omega
  have hj2 : j * 2 + (2 : Nat) ≤ cur.length := by rw [k2]; omega
  obtain ⟨x, hx⟩ : ∃ x, atA l i = x := ⟨_, rfl⟩
  obtain ⟨y, hy⟩ : ∃ y, atA l j = y := ⟨_, rfl⟩
  rw [hx] at hci hnx hrx hfj
  rw [hy] at hcj hny hry hfi
  rw [hx, hy] at hsw
  rw [hy] at HSP1
  rw [hx, hy] at HSP2
  have HX := Go.Lib.hid hci
  have HY := Go.Lib.hid hcj
  have HAI := Go.Lib.hid hfi
  have HAJ := Go.Lib.hid hfj
  have HMP : Hid (findH (swA l i j) = putF (putF (findH l) y.num i) x.num j) := Go.Lib.hid (funext fun z => by
    rw [hsw z]
    rfl)
  have HFY : Hid ((if (findH l y.num).isSome then n else n + 1) = n) := Go.Lib.hid (by rw [hny]; rfl)
  have HFX : Hid ((if (putF (findH l) y.num i x.num).isSome then n else n + 1) = n) := Go.Lib.hid (by
    unfold putF
    by_cases e : x.num = y.num
    · rw [if_pos e]; rfl
    · rw [if_neg e, hnx]; rfl)
  have HWX : (Lit.int .i64 x.num).wf = true := wfI (by omega) (by omega)
  have HWY : (Lit.int .i64 y.num).wf = true := wfI (by omega) (by omega)
  have KX := Go.Lib.hid HWX
  have KY := Go.Lib.hid HWY
  have HC0 : Hid (∀ Y, Gro r w Y → Y.cell? ⟨g, 0, none⟩ = some (.slice (some ⟨r, 0, none⟩) n c)) := Go.Lib.hid (fun Y y => (HB.out.gro y (Ne.symm hrg)).cell 0 rfl)
  have i1 : (0 : Int) ≤ (i : Int) := by omega
  have i2 : (i : Int) < (n : Int) := by omega
  have j1 : (0 : Int) ≤ (j : Int) := by omega
  have j2 : (j : Int) < (n : Int) := by omega
  clear h hci hcj hsw hnx hny hrx hry hat hfi hfj hn k1 k2 hx hy HP2_ HNL0 HWX HWY
  go_enter Try.func87, Try.ntmps87
  go_upto_region 0 with fail
  try simp only [Act.put, List.setIfInBounds_toArray, List.set_cons_zero, List.set_cons_succ]
  refine wp_region_held_drew (S := fun Y => Gro r w Y) (by kernel_rfl) ?_ (fun hHeld => ?_)
  · exact (gro_below (below_drew (Below.refl _ _)))
  refine wpAnyH_take (i := 0) (oi := ⟨some 6, _, _, _, _, _⟩) (v := ?_) rfl (by kernel_rfl) (by kernel_rfl) (by kernel_rfl) (fun _ _ _ h => h) (Or.inl ⟨by rfl, ?_⟩) (by assumption) ?_
  rotate_left
  · intro w hSw; (try dsimp only at hSw); go_simp; (try with_reducible rfl)
  try simp only [Act.put, List.setIfInBounds_toArray, List.set_cons_zero, List.set_cons_succ]
  refine wpAnyH_take (i := 1) (oi := ⟨some 7, _, _, _, _, _⟩) (v := ?_) rfl (by kernel_rfl) (by kernel_rfl) (by kernel_rfl) (fun _ _ _ h => h) (Or.inl ⟨by rfl, ?_⟩) (by assumption) ?_
  rotate_left
  · intro w hSw; (try dsimp only at hSw); go_simp; (try with_reducible rfl)
  try simp only [Act.put, List.setIfInBounds_toArray, List.set_cons_zero, List.set_cons_succ]
  refine wpAnyH_take (i := 2) (oi := ⟨some 8, _, _, _, _, _⟩) (v := ?_) rfl (by kernel_rfl) (by kernel_rfl) (by kernel_rfl) (fun _ _ _ h => h) (Or.inl ⟨by rfl, ?_⟩) (by assumption) ?_
  rotate_left
  · intro w hSw; (try dsimp only at hSw); go_simp; (try with_reducible rfl)
  try simp only [Act.put, List.setIfInBounds_toArray, List.set_cons_zero, List.set_cons_succ]
  refine wpAnyH_take (i := 3) (oi := ⟨some 9, _, _, _, _, _⟩) (v := ?_) rfl (by kernel_rfl) (by kernel_rfl) (by kernel_rfl) (fun _ _ _ h => h) (Or.inl ⟨by rfl, ?_⟩) (by assumption) ?_
  rotate_left
  · intro w hSw; have zc := HC0.out _ hSw; (try dsimp only at hSw); go_simp; (try with_reducible rfl)
  try simp only [Act.put, List.setIfInBounds_toArray, List.set_cons_zero, List.set_cons_succ]
  refine wpAnyH_take (i := 4) (oi := ⟨some 10, _, _, _, _, _⟩) (v := ?_) rfl (by kernel_rfl) (by kernel_rfl) (by kernel_rfl) (fun _ _ _ h => h) (Or.inl ⟨by rfl, ?_⟩) (by assumption) ?_
  rotate_left
  · intro w hSw; (try dsimp only at hSw); go_simp; (try with_reducible rfl)
  try simp only [Act.put, List.setIfInBounds_toArray, List.set_cons_zero, List.set_cons_succ]
  refine wpAnyH_take (i := 5) (oi := ⟨some 11, _, _, _, _, _⟩) (v := ?_) rfl (by kernel_rfl) (by kernel_rfl) (by kernel_rfl) (fun _ _ _ h => h) (Or.inl ⟨by rfl, ?_⟩) (by assumption) ?_
  rotate_left
  · intro w hSw; (try dsimp only at hSw); go_simp; (try with_reducible rfl)
  try simp only [Act.put, List.setIfInBounds_toArray, List.set_cons_zero, List.set_cons_succ]
  refine wpAnyH_take (i := 6) (oi := ⟨some 12, _, _, _, _, _⟩) (v := ?_) rfl (by kernel_rfl) (by kernel_rfl) (by kernel_rfl) (fun _ _ _ h => h) (Or.inl ⟨by rfl, ?_⟩) (by assumption) ?_
  rotate_left
  · intro w hSw; (try dsimp only at hSw); go_simp; (try with_reducible rfl)
  try simp only [Act.put, List.setIfInBounds_toArray, List.set_cons_zero, List.set_cons_succ]
  refine wpAnyH_take (i := 7) (oi := ⟨some 13, _, _, _, _, _⟩) (v := ?_) rfl (by kernel_rfl) (by kernel_rfl) (by kernel_rfl) (fun _ _ _ h => h) (Or.inl ⟨by rfl, ?_⟩) (by assumption) ?_
  rotate_left
  · intro w hSw; (try dsimp only at hSw); go_simp; (try with_reducible rfl)
  try simp only [Act.put, List.setIfInBounds_toArray, List.set_cons_zero, List.set_cons_succ]
  refine wpAnyH_take (i := 8) (oi := ⟨some 14, _, _, _, _, _⟩) (v := ?_) rfl (by kernel_rfl) (by kernel_rfl) (by kernel_rfl) (fun _ _ _ h => h) (Or.inl ⟨by rfl, ?_⟩) (by assumption) ?_
  rotate_left
  · intro w hSw; have zc := HC0.out _ hSw; (try dsimp only at hSw); go_simp; (try with_reducible rfl)
  try simp only [Act.put, List.setIfInBounds_toArray, List.set_cons_zero, List.set_cons_succ]
  refine wpAnyH_take (i := 9) (oi := ⟨some 15, _, _, _, _, _⟩) (v := ?_) rfl (by kernel_rfl) (by kernel_rfl) (by kernel_rfl) (fun _ _ _ h => h) (Or.inl ⟨by rfl, ?_⟩) (by assumption) ?_
  rotate_left
  · intro w hSw; (try dsimp only at hSw); go_simp; (try with_reducible rfl)
  try simp only [Act.put, List.setIfInBounds_toArray, List.set_cons_zero, List.set_cons_succ]
  refine wpAnyH_take (i := 10) (oi := ⟨some 16, _, _, _, _, _⟩) (v := ?_) rfl (by kernel_rfl) (by kernel_rfl) (by kernel_rfl) (fun _ _ _ h => h) (Or.inl ⟨by rfl, ?_⟩) (by assumption) ?_
  rotate_left
  · intro w hSw; (try dsimp only at hSw); go_simp; (try with_reducible rfl)
  try simp only [Act.put, List.setIfInBounds_toArray, List.set_cons_zero, List.set_cons_succ]
  refine wpAnyH_take (i := 11) (oi := ⟨some 17, _, _, _, _, _⟩) (v := ?_) rfl (by kernel_rfl) (by kernel_rfl) (by kernel_rfl) (fun _ _ _ h => h) (Or.inl ⟨by rfl, ?_⟩) (by assumption) ?_
  rotate_left
  · intro w hSw; (try dsimp only at hSw); go_simp; (try with_reducible rfl)
  try simp only [Act.put, List.setIfInBounds_toArray, List.set_cons_zero, List.set_cons_succ]
  refine wpAnyH_take (i := 12) (oi := ⟨some 18, _, _, _, _, _⟩) (v := ?_) rfl (by kernel_rfl) (by kernel_rfl) (by kernel_rfl) (fun _ _ _ h => h) (Or.inl ⟨by rfl, ?_⟩) (by assumption) ?_
  rotate_left
  · intro w hSw; (try dsimp only at hSw); go_simp; (try with_reducible rfl)
  try simp only [Act.put, List.setIfInBounds_toArray, List.set_cons_zero, List.set_cons_succ]
  refine wpAnyH_take (i := 13) (oi := ⟨some 19, _, _, _, _, _⟩) (v := ?_) rfl (by kernel_rfl) (by kernel_rfl) (by kernel_rfl) (fun _ _ _ h => h) (Or.inl ⟨by rfl, ?_⟩) (by assumption) ?_
  rotate_left
  · intro w hSw; have zc := HC0.out _ hSw; (try dsimp only at hSw); go_simp; (try with_reducible rfl)
  try simp only [Act.put, List.setIfInBounds_toArray, List.set_cons_zero, List.set_cons_succ]
  refine wpAnyH_take (i := 14) (oi := ⟨some 20, _, _, _, _, _⟩) (v := ?_) rfl (by kernel_rfl) (by kernel_rfl) (by kernel_rfl) (fun _ _ _ h => h) (Or.inl ⟨by rfl, ?_⟩) (by assumption) ?_
  rotate_left
  · intro w hSw; (try dsimp only at hSw); go_simp; (try with_reducible rfl)
  try simp only [Act.put, List.setIfInBounds_toArray, List.set_cons_zero, List.set_cons_succ]
  refine wpAnyH_take (i := 15) (oi := ⟨some 21, _, _, _, _, _⟩) (v := ?_) rfl (by kernel_rfl) (by kernel_rfl) (by kernel_rfl) (fun _ _ _ h => h) (Or.inl ⟨by rfl, ?_⟩) (by assumption) ?_
  rotate_left
  · intro w hSw; (try dsimp only at hSw); go_simp; (try with_reducible rfl)
  try simp only [Act.put, List.setIfInBounds_toArray, List.set_cons_zero, List.set_cons_succ]
  refine wpAnyH_take (i := 17) (oi := ⟨some 23, _, _, _, _, _⟩) (v := ?_) rfl (by kernel_rfl) (by kernel_rfl) (by kernel_rfl) (fun _ _ _ h => h) (Or.inl ⟨by rfl, ?_⟩) (by assumption) ?_
  rotate_left
  · intro w hSw; (try dsimp only at hSw); go_simp; (try with_reducible rfl)
  try simp only [Act.put, List.setIfInBounds_toArray, List.set_cons_zero, List.set_cons_succ]
  refine wpAnyH_take (i := 18) (oi := ⟨some 24, _, _, _, _, _⟩) (v := ?_) rfl (by kernel_rfl) (by kernel_rfl) (by kernel_rfl) (fun _ _ _ h => h) (Or.inl ⟨by rfl, ?_⟩) (by assumption) ?_
  rotate_left
  · intro w hSw; (try dsimp only at hSw); go_simp; (try with_reducible rfl)
  try simp only [Act.put, List.setIfInBounds_toArray, List.set_cons_zero, List.set_cons_succ]
  refine wpAnyH_take (i := 19) (oi := ⟨some 25, _, _, _, _, _⟩) (v := ?_) rfl (by kernel_rfl) (by kernel_rfl) (by kernel_rfl) (fun _ _ _ h => h) (Or.inl ⟨by rfl, ?_⟩) (by assumption) ?_
  rotate_left
  · intro w hSw; (try dsimp only at hSw); go_simp; (try with_reducible rfl)
  try simp only [Act.put, List.setIfInBounds_toArray, List.set_cons_zero, List.set_cons_succ]
  refine wpAnyH_take (i := 20) (oi := ⟨some 26, _, _, _, _, _⟩) (v := ?_) rfl (by kernel_rfl) (by kernel_rfl) (by kernel_rfl) (fun _ _ _ h => h) (Or.inl ⟨by rfl, ?_⟩) (by assumption) ?_
  rotate_left
  · intro w hSw; have zc := HC0.out _ hSw; (try dsimp only at hSw); go_simp; (try with_reducible rfl)
  try simp only [Act.put, List.setIfInBounds_toArray, List.set_cons_zero, List.set_cons_succ]
  refine wpAnyH_take (i := 21) (oi := ⟨some 27, _, _, _, _, _⟩) (v := ?_) rfl (by kernel_rfl) (by kernel_rfl) (by kernel_rfl) (fun _ _ _ h => h) (Or.inl ⟨by rfl, ?_⟩) (by assumption) ?_
  rotate_left
  · intro w hSw; (try dsimp only at hSw); go_simp; (try with_reducible rfl)
  try simp only [Act.put, List.setIfInBounds_toArray, List.set_cons_zero, List.set_cons_succ]
  refine wpAnyH_take (i := 22) (oi := ⟨some 28, _, _, _, _, _⟩) (v := ?_) rfl (by kernel_rfl) (by kernel_rfl) (by kernel_rfl) (fun _ _ _ h => h) (Or.inl ⟨by rfl, ?_⟩) (by assumption) ?_
  rotate_left
  · intro w hSw; (try dsimp only at hSw); go_simp; (try with_reducible rfl)
  try simp only [Act.put, List.setIfInBounds_toArray, List.set_cons_zero, List.set_cons_succ]
  refine wpAnyH_ready (rs := [16, 23]) (by kernel_rfl) (by simp) (AllReadyH.cons (o := ⟨some 22, _, _, _, _, _⟩) rfl (fun Kc hKc => ?_) (AllReadyH.cons (o := ⟨some 29, _, _, _, _, _⟩) rfl (fun Kc hKc => ?_) AllReadyH.nil))
  ·
    rw [if_pos (by rfl)]
    refine step_load_at 104 _ rfl ⟨r, j * 2, none⟩ rfl (alL y) _ (HY.out _ rfl) Try.underlying104 rfl info_alg ?_
    refine hKc.out _ _ (hHeld) (fun hHeld => ?_)
    clear hKc Kc
    try simp only [Act.put, List.setIfInBounds_toArray, List.set_cons_zero, List.set_cons_succ]
    refine wpAnyH_ready (rs := [23]) (by kernel_rfl) (by simp) (AllReadyH.cons (o := ⟨some 29, _, _, _, _, _⟩) rfl (fun Kc hKc => ?_) AllReadyH.nil)
    rw [if_pos (by rfl)]
    refine step_load_at 104 _ rfl ⟨r, i * 2, none⟩ rfl (alL x) _ (HX.out _ rfl) Try.underlying104 rfl info_alg ?_
    refine hKc.out _ _ (hHeld) (fun hHeld => ?_)
    clear hKc Kc
    try simp only [Act.put, List.setIfInBounds_toArray, List.set_cons_zero, List.set_cons_succ]
    refine wpAnyH_take (i := 24) (oi := ⟨some 30, _, _, _, _, _⟩) (v := ?_) rfl (by kernel_rfl) (by kernel_rfl) (by kernel_rfl) (fun _ _ _ h => h) (Or.inl ⟨by rfl, ?_⟩) (by assumption) ?_
    rotate_left
    · intro w hSw; (try dsimp only at hSw); go_simp; (try with_reducible rfl)
    try simp only [Act.put, List.setIfInBounds_toArray, List.set_cons_zero, List.set_cons_succ]
    refine wpAnyH_ready (rs := [25]) (by kernel_rfl) (by simp) (AllReadyH.cons (o := ⟨none, _, _, _, _, _⟩) rfl (fun Kc hKc => ?_) AllReadyH.nil)
    rw [if_pos (by rfl)]
    refine step_store_any 104 _ _ rfl r (i * 2) 104 cur (alL y) _ rfl rfl rfl HD.out info_alg hi2 (by simp [Value.oneCell']) ?_; intro w1 hb1 ho1; have HB1 := Go.Lib.hid hb1; have HO1 := Go.Lib.hid ho1; clear hb1 ho1
    refine hKc.out _ _ (hHeld.trans HO1.out.gro) (fun hHeld => ?_)
    clear hKc Kc
    try simp only [Act.put, List.setIfInBounds_toArray, List.set_cons_zero, List.set_cons_succ]
    refine wpAnyH_take (i := 26) (oi := ⟨some 31, _, _, _, _, _⟩) (v := ?_) rfl (by kernel_rfl) (by kernel_rfl) (by kernel_rfl) (fun _ _ _ h => h) (Or.inl ⟨by rfl, ?_⟩) (by assumption) ?_
    rotate_left
    · intro w hSw; (try dsimp only at hSw); go_simp; (try with_reducible rfl)
    try simp only [Act.put, List.setIfInBounds_toArray, List.set_cons_zero, List.set_cons_succ]
    refine wpAnyH_ready (rs := [27]) (by kernel_rfl) (by simp) (AllReadyH.cons (o := ⟨none, _, _, _, _, _⟩) rfl (fun Kc hKc => ?_) AllReadyH.nil)
    rw [if_pos (by rfl)]
    refine step_store_any 104 _ _ rfl r (j * 2) 104 _ (alL x) _ rfl rfl rfl HB1.out info_alg (by rw [spl_length]; exact hj2) (by simp [Value.oneCell']) ?_; intro w2 hb2 ho2; have HB2 := Go.Lib.hid hb2; have HO2 := Go.Lib.hid ho2; clear hb2 ho2
    refine hKc.out _ _ (hHeld.trans HO2.out.gro) (fun hHeld => ?_)
    clear hKc Kc
    try simp only [Act.put, List.setIfInBounds_toArray, List.set_cons_zero, List.set_cons_succ]
    refine wpAnyH_done (by kernel_rfl) ?_ _
    have yq := hHeld
    clear hHeld
    have HG2 := Go.Lib.hid (HB.out.gro yq (Ne.symm hrg))
    have hro1 := own_spl (own_keep (w' := w.drew) HRW.out rfl) HD.out (by show i * 2 + 2 ≤ _; omega) HB1.out
    rw [HSP1.out] at hro1
    have hro2 := own_spl hro1 HB1.out (by show j * 2 + 2 ≤ _; omega) HB2.out
    rw [HSP2.out] at hro2
    have HR2 := Go.Lib.hid hro2
    have HP2 := Go.Lib.hid (HP.out.keep (yq.block mb HP.out.lt (Ne.symm hrm)))
    clear hro1 hro2
    have HM2 : Hid (∀ Y, Gro mb w2 Y → Y.cell? ⟨g, 1, none⟩ = some (.map (some mb))) := Go.Lib.hid (fun Y y => (HG2.out.gro y hgm).cell 1 rfl)
    have HZ2 : Hid (∀ Y, Gro mb w2 Y → Y.cell? ⟨g, 0, none⟩ = some (.slice (some ⟨r, 0, none⟩) n c)) := Go.Lib.hid (fun Y y => (HG2.out.gro y hgm).cell 0 rfl)
    have HN2 : Hid (∀ Y, Gro mb w2 Y → Y.cell? ⟨r, i * 2, none⟩ = some (.int .i64 y.num)) := Go.Lib.hid (fun Y y' => by
      have hk := own_keep (w' := Y) HR2.out (y'.block r (own_ltI HR2.out r rfl) hrm)
      rw [own_cells hk (i * 2) (by omega), HAI.out])
    go_upto_region 1 with fail
    try simp only [Act.put, List.setIfInBounds_toArray, List.set_cons_zero, List.set_cons_succ]
    refine wp_region_held_drew (S := fun Y => Gro mb w2 Y) (by kernel_rfl) ?_ (fun hHeld => ?_)
    · exact (gro_below (below_drew (Below.refl _ _)))
    refine wpAnyH_take (i := 0) (oi := ⟨some 32, _, _, _, _, _⟩) (v := ?_) rfl (by kernel_rfl) (by kernel_rfl) (by kernel_rfl) (fun _ _ _ h => h) (Or.inl ⟨by rfl, ?_⟩) (by assumption) ?_
    rotate_left
    · intro w hSw; (try dsimp only at hSw); go_simp; (try with_reducible rfl)
    try simp only [Act.put, List.setIfInBounds_toArray, List.set_cons_zero, List.set_cons_succ]
    refine wpAnyH_take (i := 1) (oi := ⟨some 33, _, _, _, _, _⟩) (v := ?_) rfl (by kernel_rfl) (by kernel_rfl) (by kernel_rfl) (fun _ _ _ h => h) (Or.inl ⟨by rfl, ?_⟩) (by assumption) ?_
    rotate_left
    · intro w hSw; (try dsimp only at hSw); go_simp; (try with_reducible rfl)
    try simp only [Act.put, List.setIfInBounds_toArray, List.set_cons_zero, List.set_cons_succ]
    refine wpAnyH_take (i := 2) (oi := ⟨some 34, _, _, _, _, _⟩) (v := ?_) rfl (by kernel_rfl) (by kernel_rfl) (by kernel_rfl) (fun _ _ _ h => h) (Or.inl ⟨by rfl, ?_⟩) (by assumption) ?_
    rotate_left
    · intro w hSw; (try dsimp only at hSw); go_simp; (try with_reducible rfl)
    try simp only [Act.put, List.setIfInBounds_toArray, List.set_cons_zero, List.set_cons_succ]
    refine wpAnyH_take (i := 3) (oi := ⟨some 35, _, _, _, _, _⟩) (v := ?_) rfl (by kernel_rfl) (by kernel_rfl) (by kernel_rfl) (fun _ _ _ h => h) (Or.inl ⟨by rfl, ?_⟩) (by assumption) ?_
    rotate_left
    · intro w hSw; have zc := HM2.out _ hSw; (try dsimp only at hSw); go_simp; (try with_reducible rfl)
    try simp only [Act.put, List.setIfInBounds_toArray, List.set_cons_zero, List.set_cons_succ]
    refine wpAnyH_take (i := 4) (oi := ⟨some 36, _, _, _, _, _⟩) (v := ?_) rfl (by kernel_rfl) (by kernel_rfl) (by kernel_rfl) (fun _ _ _ h => h) (Or.inl ⟨by rfl, ?_⟩) (by assumption) ?_
    rotate_left
    · intro w hSw; (try dsimp only at hSw); go_simp; (try with_reducible rfl)
    try simp only [Act.put, List.setIfInBounds_toArray, List.set_cons_zero, List.set_cons_succ]
    refine wpAnyH_take (i := 5) (oi := ⟨some 37, _, _, _, _, _⟩) (v := ?_) rfl (by kernel_rfl) (by kernel_rfl) (by kernel_rfl) (fun _ _ _ h => h) (Or.inl ⟨by rfl, ?_⟩) (by assumption) ?_
    rotate_left
    · intro w hSw; (try dsimp only at hSw); go_simp; (try with_reducible rfl)
    try simp only [Act.put, List.setIfInBounds_toArray, List.set_cons_zero, List.set_cons_succ]
    refine wpAnyH_take (i := 6) (oi := ⟨some 38, _, _, _, _, _⟩) (v := ?_) rfl (by kernel_rfl) (by kernel_rfl) (by kernel_rfl) (fun _ _ _ h => h) (Or.inl ⟨by rfl, ?_⟩) (by assumption) ?_
    rotate_left
    · intro w hSw; (try dsimp only at hSw); go_simp; (try with_reducible rfl)
    try simp only [Act.put, List.setIfInBounds_toArray, List.set_cons_zero, List.set_cons_succ]
    refine wpAnyH_take (i := 7) (oi := ⟨some 39, _, _, _, _, _⟩) (v := ?_) rfl (by kernel_rfl) (by kernel_rfl) (by kernel_rfl) (fun _ _ _ h => h) (Or.inl ⟨by rfl, ?_⟩) (by assumption) ?_
    rotate_left
    · intro w hSw; have zc := HZ2.out _ hSw; (try dsimp only at hSw); go_simp; (try with_reducible rfl)
    try simp only [Act.put, List.setIfInBounds_toArray, List.set_cons_zero, List.set_cons_succ]
    refine wpAnyH_take (i := 8) (oi := ⟨some 40, _, _, _, _, _⟩) (v := ?_) rfl (by kernel_rfl) (by kernel_rfl) (by kernel_rfl) (fun _ _ _ h => h) (Or.inl ⟨by rfl, ?_⟩) (by assumption) ?_
    rotate_left
    · intro w hSw; (try dsimp only at hSw); go_simp; (try with_reducible rfl)
    try simp only [Act.put, List.setIfInBounds_toArray, List.set_cons_zero, List.set_cons_succ]
    refine wpAnyH_take (i := 9) (oi := ⟨some 41, _, _, _, _, _⟩) (v := ?_) rfl (by kernel_rfl) (by kernel_rfl) (by kernel_rfl) (fun _ _ _ h => h) (Or.inl ⟨by rfl, ?_⟩) (by assumption) ?_
    rotate_left
    · intro w hSw; (try dsimp only at hSw); go_simp; (try with_reducible rfl)
    try simp only [Act.put, List.setIfInBounds_toArray, List.set_cons_zero, List.set_cons_succ]
    refine wpAnyH_take (i := 10) (oi := ⟨some 42, _, _, _, _, _⟩) (v := ?_) rfl (by kernel_rfl) (by kernel_rfl) (by kernel_rfl) (fun _ _ _ h => h) (Or.inl ⟨by rfl, ?_⟩) (by assumption) ?_
    rotate_left
    · intro w hSw; (try dsimp only at hSw); go_simp; (try with_reducible rfl)
    try simp only [Act.put, List.setIfInBounds_toArray, List.set_cons_zero, List.set_cons_succ]
    refine wpAnyH_take (i := 11) (oi := ⟨some 43, _, _, _, _, _⟩) (v := ?_) rfl (by kernel_rfl) (by kernel_rfl) (by kernel_rfl) (fun _ _ _ h => h) (Or.inl ⟨by rfl, ?_⟩) (by assumption) ?_
    rotate_left
    · intro w hSw; have zc := HN2.out _ hSw; (try dsimp only at hSw); go_simp; (try with_reducible rfl)
    try simp only [Act.put, List.setIfInBounds_toArray, List.set_cons_zero, List.set_cons_succ]
    refine wpAnyH_take (i := 12) (oi := ⟨some 44, _, _, _, _, _⟩) (v := ?_) rfl (by kernel_rfl) (by kernel_rfl) (by kernel_rfl) (fun _ _ _ h => h) (Or.inl ⟨by rfl, ?_⟩) (by assumption) ?_
    rotate_left
    · intro w hSw; (try dsimp only at hSw); go_simp; (try with_reducible rfl)
    try simp only [Act.put, List.setIfInBounds_toArray, List.set_cons_zero, List.set_cons_succ]
    refine wpAnyH_ready (rs := [13]) (by kernel_rfl) (by simp) (AllReadyH.cons (o := ⟨none, _, _, _, _, _⟩) rfl (fun Kc hKc => ?_) AllReadyH.nil)
    rw [if_pos (by rfl)]
    refine step_putP (w := w2.drew) (HP2.out.keep rfl) (by omega) _ _ _ rfl y.num KY.out i (by omega) rfl rfl rfl ?_; intro w3 hp3 ho3; have HP3 := Go.Lib.hid hp3; have HO3 := Go.Lib.hid ho3; clear hp3 ho3
    refine hKc.out _ _ (hHeld.trans HO3.out.gro) (fun hHeld => ?_)
    clear hKc Kc
    try simp only [Act.put, List.setIfInBounds_toArray, List.set_cons_zero, List.set_cons_succ]
    refine wpAnyH_done (by kernel_rfl) ?_ _
    have yq3 := hHeld
    clear hHeld
    have HG3 := Go.Lib.hid (HG2.out.gro yq3 hgm)
    have HR3 := Go.Lib.hid (own_keep (w' := w3) HR2.out (yq3.block r (own_ltI HR2.out r rfl) hrm))
    have HM3 : Hid (∀ Y, Gro mb w3 Y → Y.cell? ⟨g, 1, none⟩ = some (.map (some mb))) := Go.Lib.hid (fun Y y => (HG3.out.gro y hgm).cell 1 rfl)
    have HZ3 : Hid (∀ Y, Gro mb w3 Y → Y.cell? ⟨g, 0, none⟩ = some (.slice (some ⟨r, 0, none⟩) n c)) := Go.Lib.hid (fun Y y => (HG3.out.gro y hgm).cell 0 rfl)
    have HN3 : Hid (∀ Y, Gro mb w3 Y → Y.cell? ⟨r, j * 2, none⟩ = some (.int .i64 x.num)) := Go.Lib.hid (fun Y y' => by
      have hk := own_keep (w' := Y) HR3.out (y'.block r (own_ltI HR3.out r rfl) hrm)
      rw [own_cells hk (j * 2) (by omega), HAJ.out])
    have HP3 : Hid (PmAt w3 mb (putF (findH l) y.num i) n) := Go.Lib.hid (by have := HP3.out; rwa [HFY.out] at this)
    go_upto_region 2 with fail
    try simp only [Act.put, List.setIfInBounds_toArray, List.set_cons_zero, List.set_cons_succ]
    refine wp_region_held_drew (S := fun Y => Gro mb w3 Y) (by kernel_rfl) ?_ (fun hHeld => ?_)
    · exact (gro_below (below_drew (Below.refl _ _)))
    refine wpAnyH_take (i := 0) (oi := ⟨some 45, _, _, _, _, _⟩) (v := ?_) rfl (by kernel_rfl) (by kernel_rfl) (by kernel_rfl) (fun _ _ _ h => h) (Or.inl ⟨by rfl, ?_⟩) (by assumption) ?_
    rotate_left
    · intro w hSw; (try dsimp only at hSw); go_simp; (try with_reducible rfl)
    try simp only [Act.put, List.setIfInBounds_toArray, List.set_cons_zero, List.set_cons_succ]
    refine wpAnyH_take (i := 1) (oi := ⟨some 46, _, _, _, _, _⟩) (v := ?_) rfl (by kernel_rfl) (by kernel_rfl) (by kernel_rfl) (fun _ _ _ h => h) (Or.inl ⟨by rfl, ?_⟩) (by assumption) ?_
    rotate_left
    · intro w hSw; (try dsimp only at hSw); go_simp; (try with_reducible rfl)
    try simp only [Act.put, List.setIfInBounds_toArray, List.set_cons_zero, List.set_cons_succ]
    refine wpAnyH_take (i := 2) (oi := ⟨some 47, _, _, _, _, _⟩) (v := ?_) rfl (by kernel_rfl) (by kernel_rfl) (by kernel_rfl) (fun _ _ _ h => h) (Or.inl ⟨by rfl, ?_⟩) (by assumption) ?_
    rotate_left
    · intro w hSw; (try dsimp only at hSw); go_simp; (try with_reducible rfl)
    try simp only [Act.put, List.setIfInBounds_toArray, List.set_cons_zero, List.set_cons_succ]
    refine wpAnyH_take (i := 3) (oi := ⟨some 48, _, _, _, _, _⟩) (v := ?_) rfl (by kernel_rfl) (by kernel_rfl) (by kernel_rfl) (fun _ _ _ h => h) (Or.inl ⟨by rfl, ?_⟩) (by assumption) ?_
    rotate_left
    · intro w hSw; have zc := HM3.out _ hSw; (try dsimp only at hSw); go_simp; (try with_reducible rfl)
    try simp only [Act.put, List.setIfInBounds_toArray, List.set_cons_zero, List.set_cons_succ]
    refine wpAnyH_take (i := 4) (oi := ⟨some 49, _, _, _, _, _⟩) (v := ?_) rfl (by kernel_rfl) (by kernel_rfl) (by kernel_rfl) (fun _ _ _ h => h) (Or.inl ⟨by rfl, ?_⟩) (by assumption) ?_
    rotate_left
    · intro w hSw; (try dsimp only at hSw); go_simp; (try with_reducible rfl)
    try simp only [Act.put, List.setIfInBounds_toArray, List.set_cons_zero, List.set_cons_succ]
    refine wpAnyH_take (i := 5) (oi := ⟨some 50, _, _, _, _, _⟩) (v := ?_) rfl (by kernel_rfl) (by kernel_rfl) (by kernel_rfl) (fun _ _ _ h => h) (Or.inl ⟨by rfl, ?_⟩) (by assumption) ?_
    rotate_left
    · intro w hSw; (try dsimp only at hSw); go_simp; (try with_reducible rfl)
    try simp only [Act.put, List.setIfInBounds_toArray, List.set_cons_zero, List.set_cons_succ]
    refine wpAnyH_take (i := 6) (oi := ⟨some 51, _, _, _, _, _⟩) (v := ?_) rfl (by kernel_rfl) (by kernel_rfl) (by kernel_rfl) (fun _ _ _ h => h) (Or.inl ⟨by rfl, ?_⟩) (by assumption) ?_
    rotate_left
    · intro w hSw; (try dsimp only at hSw); go_simp; (try with_reducible rfl)
    try simp only [Act.put, List.setIfInBounds_toArray, List.set_cons_zero, List.set_cons_succ]
    refine wpAnyH_take (i := 7) (oi := ⟨some 52, _, _, _, _, _⟩) (v := ?_) rfl (by kernel_rfl) (by kernel_rfl) (by kernel_rfl) (fun _ _ _ h => h) (Or.inl ⟨by rfl, ?_⟩) (by assumption) ?_
    rotate_left
    · intro w hSw; have zc := HZ3.out _ hSw; (try dsimp only at hSw); go_simp; (try with_reducible rfl)
    try simp only [Act.put, List.setIfInBounds_toArray, List.set_cons_zero, List.set_cons_succ]
    refine wpAnyH_take (i := 8) (oi := ⟨some 53, _, _, _, _, _⟩) (v := ?_) rfl (by kernel_rfl) (by kernel_rfl) (by kernel_rfl) (fun _ _ _ h => h) (Or.inl ⟨by rfl, ?_⟩) (by assumption) ?_
    rotate_left
    · intro w hSw; (try dsimp only at hSw); go_simp; (try with_reducible rfl)
    try simp only [Act.put, List.setIfInBounds_toArray, List.set_cons_zero, List.set_cons_succ]
    refine wpAnyH_take (i := 9) (oi := ⟨some 54, _, _, _, _, _⟩) (v := ?_) rfl (by kernel_rfl) (by kernel_rfl) (by kernel_rfl) (fun _ _ _ h => h) (Or.inl ⟨by rfl, ?_⟩) (by assumption) ?_
    rotate_left
    · intro w hSw; (try dsimp only at hSw); go_simp; (try with_reducible rfl)
    try simp only [Act.put, List.setIfInBounds_toArray, List.set_cons_zero, List.set_cons_succ]
    refine wpAnyH_take (i := 10) (oi := ⟨some 55, _, _, _, _, _⟩) (v := ?_) rfl (by kernel_rfl) (by kernel_rfl) (by kernel_rfl) (fun _ _ _ h => h) (Or.inl ⟨by rfl, ?_⟩) (by assumption) ?_
    rotate_left
    · intro w hSw; (try dsimp only at hSw); go_simp; (try with_reducible rfl)
    try simp only [Act.put, List.setIfInBounds_toArray, List.set_cons_zero, List.set_cons_succ]
    refine wpAnyH_take (i := 11) (oi := ⟨some 56, _, _, _, _, _⟩) (v := ?_) rfl (by kernel_rfl) (by kernel_rfl) (by kernel_rfl) (fun _ _ _ h => h) (Or.inl ⟨by rfl, ?_⟩) (by assumption) ?_
    rotate_left
    · intro w hSw; have zc := HN3.out _ hSw; (try dsimp only at hSw); go_simp; (try with_reducible rfl)
    try simp only [Act.put, List.setIfInBounds_toArray, List.set_cons_zero, List.set_cons_succ]
    refine wpAnyH_take (i := 12) (oi := ⟨some 57, _, _, _, _, _⟩) (v := ?_) rfl (by kernel_rfl) (by kernel_rfl) (by kernel_rfl) (fun _ _ _ h => h) (Or.inl ⟨by rfl, ?_⟩) (by assumption) ?_
    rotate_left
    · intro w hSw; (try dsimp only at hSw); go_simp; (try with_reducible rfl)
    try simp only [Act.put, List.setIfInBounds_toArray, List.set_cons_zero, List.set_cons_succ]
    refine wpAnyH_ready (rs := [13]) (by kernel_rfl) (by simp) (AllReadyH.cons (o := ⟨none, _, _, _, _, _⟩) rfl (fun Kc hKc => ?_) AllReadyH.nil)
    rw [if_pos (by rfl)]
    refine step_putP (w := w3.drew) (HP3.out.keep rfl) (by omega) _ _ _ rfl x.num KX.out j (by omega) rfl rfl rfl ?_; intro w4 hp4 ho4; have HP4 := Go.Lib.hid hp4; have HO4 := Go.Lib.hid ho4; clear hp4 ho4
    refine hKc.out _ _ (hHeld.trans HO4.out.gro) (fun hHeld => ?_)
    clear hKc Kc
    try simp only [Act.put, List.setIfInBounds_toArray, List.set_cons_zero, List.set_cons_succ]
    refine wpAnyH_done (by kernel_rfl) ?_ _
    have yq4 := hHeld
    clear hHeld
    have HP4 : Hid (PmAt w4 mb (putF (putF (findH l) y.num i) x.num j) n) := Go.Lib.hid (by have := HP4.out; rwa [HFX.out] at this)
    have HG4 := Go.Lib.hid (HG3.out.gro yq4 hgm)
    have HR4 := Go.Lib.hid (own_keep (w' := w4) HR3.out (yq4.block r (own_ltI HR3.out r rfl) hrm))
    go_wp2
    go_end0
    refine ⟨rfl, GR.mk' HNL.out HG4.out HR4.out ?_ HGR.out, (gro_moves yq HF.out.1).trans ((gro_moves yq3 HF.out.2).trans (gro_moves yq4 HF.out.2))⟩
    rw [HMP.out]
    exact HP4.out
  ·
    rw [if_pos (by rfl)]
    refine step_load_at 104 _ rfl ⟨r, i * 2, none⟩ rfl (alL x) _ (HX.out _ rfl) Try.underlying104 rfl info_alg ?_
    refine hKc.out _ _ (hHeld) (fun hHeld => ?_)
    clear hKc Kc
    try simp only [Act.put, List.setIfInBounds_toArray, List.set_cons_zero, List.set_cons_succ]
    refine wpAnyH_ready (rs := [16]) (by kernel_rfl) (by simp) (AllReadyH.cons (o := ⟨some 22, _, _, _, _, _⟩) rfl (fun Kc hKc => ?_) AllReadyH.nil)
    rw [if_pos (by rfl)]
    refine step_load_at 104 _ rfl ⟨r, j * 2, none⟩ rfl (alL y) _ (HY.out _ rfl) Try.underlying104 rfl info_alg ?_
    refine hKc.out _ _ (hHeld) (fun hHeld => ?_)
    clear hKc Kc
    try simp only [Act.put, List.setIfInBounds_toArray, List.set_cons_zero, List.set_cons_succ]
    refine wpAnyH_take (i := 24) (oi := ⟨some 30, _, _, _, _, _⟩) (v := ?_) rfl (by kernel_rfl) (by kernel_rfl) (by kernel_rfl) (fun _ _ _ h => h) (Or.inl ⟨by rfl, ?_⟩) (by assumption) ?_
    rotate_left
    · intro w hSw; (try dsimp only at hSw); go_simp; (try with_reducible rfl)
    try simp only [Act.put, List.setIfInBounds_toArray, List.set_cons_zero, List.set_cons_succ]
    refine wpAnyH_ready (rs := [25]) (by kernel_rfl) (by simp) (AllReadyH.cons (o := ⟨none, _, _, _, _, _⟩) rfl (fun Kc hKc => ?_) AllReadyH.nil)
    rw [if_pos (by rfl)]
    refine step_store_any 104 _ _ rfl r (i * 2) 104 cur (alL y) _ rfl rfl rfl HD.out info_alg hi2 (by simp [Value.oneCell']) ?_; intro w1 hb1 ho1; have HB1 := Go.Lib.hid hb1; have HO1 := Go.Lib.hid ho1; clear hb1 ho1
    refine hKc.out _ _ (hHeld.trans HO1.out.gro) (fun hHeld => ?_)
    clear hKc Kc
    try simp only [Act.put, List.setIfInBounds_toArray, List.set_cons_zero, List.set_cons_succ]
    refine wpAnyH_take (i := 26) (oi := ⟨some 31, _, _, _, _, _⟩) (v := ?_) rfl (by kernel_rfl) (by kernel_rfl) (by kernel_rfl) (fun _ _ _ h => h) (Or.inl ⟨by rfl, ?_⟩) (by assumption) ?_
    rotate_left
    · intro w hSw; (try dsimp only at hSw); go_simp; (try with_reducible rfl)
    try simp only [Act.put, List.setIfInBounds_toArray, List.set_cons_zero, List.set_cons_succ]
    refine wpAnyH_ready (rs := [27]) (by kernel_rfl) (by simp) (AllReadyH.cons (o := ⟨none, _, _, _, _, _⟩) rfl (fun Kc hKc => ?_) AllReadyH.nil)
    rw [if_pos (by rfl)]
    refine step_store_any 104 _ _ rfl r (j * 2) 104 _ (alL x) _ rfl rfl rfl HB1.out info_alg (by rw [spl_length]; exact hj2) (by simp [Value.oneCell']) ?_; intro w2 hb2 ho2; have HB2 := Go.Lib.hid hb2; have HO2 := Go.Lib.hid ho2; clear hb2 ho2
    refine hKc.out _ _ (hHeld.trans HO2.out.gro) (fun hHeld => ?_)
    clear hKc Kc
    try simp only [Act.put, List.setIfInBounds_toArray, List.set_cons_zero, List.set_cons_succ]
    refine wpAnyH_done (by kernel_rfl) ?_ _
    have yq := hHeld
    clear hHeld
    have HG2 := Go.Lib.hid (HB.out.gro yq (Ne.symm hrg))
    have hro1 := own_spl (own_keep (w' := w.drew) HRW.out rfl) HD.out (by show i * 2 + 2 ≤ _; omega) HB1.out
    rw [HSP1.out] at hro1
    have hro2 := own_spl hro1 HB1.out (by show j * 2 + 2 ≤ _; omega) HB2.out
    rw [HSP2.out] at hro2
    have HR2 := Go.Lib.hid hro2
    have HP2 := Go.Lib.hid (HP.out.keep (yq.block mb HP.out.lt (Ne.symm hrm)))
    clear hro1 hro2
    have HM2 : Hid (∀ Y, Gro mb w2 Y → Y.cell? ⟨g, 1, none⟩ = some (.map (some mb))) := Go.Lib.hid (fun Y y => (HG2.out.gro y hgm).cell 1 rfl)
    have HZ2 : Hid (∀ Y, Gro mb w2 Y → Y.cell? ⟨g, 0, none⟩ = some (.slice (some ⟨r, 0, none⟩) n c)) := Go.Lib.hid (fun Y y => (HG2.out.gro y hgm).cell 0 rfl)
    have HN2 : Hid (∀ Y, Gro mb w2 Y → Y.cell? ⟨r, i * 2, none⟩ = some (.int .i64 y.num)) := Go.Lib.hid (fun Y y' => by
      have hk := own_keep (w' := Y) HR2.out (y'.block r (own_ltI HR2.out r rfl) hrm)
      rw [own_cells hk (i * 2) (by omega), HAI.out])
    go_upto_region 1 with fail
    try simp only [Act.put, List.setIfInBounds_toArray, List.set_cons_zero, List.set_cons_succ]
    refine wp_region_held_drew (S := fun Y => Gro mb w2 Y) (by kernel_rfl) ?_ (fun hHeld => ?_)
    · exact (gro_below (below_drew (Below.refl _ _)))
    refine wpAnyH_take (i := 0) (oi := ⟨some 32, _, _, _, _, _⟩) (v := ?_) rfl (by kernel_rfl) (by kernel_rfl) (by kernel_rfl) (fun _ _ _ h => h) (Or.inl ⟨by rfl, ?_⟩) (by assumption) ?_
    rotate_left
    · intro w hSw; (try dsimp only at hSw); go_simp; (try with_reducible rfl)
    try simp only [Act.put, List.setIfInBounds_toArray, List.set_cons_zero, List.set_cons_succ]
    refine wpAnyH_take (i := 1) (oi := ⟨some 33, _, _, _, _, _⟩) (v := ?_) rfl (by kernel_rfl) (by kernel_rfl) (by kernel_rfl) (fun _ _ _ h => h) (Or.inl ⟨by rfl, ?_⟩) (by assumption) ?_
    rotate_left
    · intro w hSw; (try dsimp only at hSw); go_simp; (try with_reducible rfl)
    try simp only [Act.put, List.setIfInBounds_toArray, List.set_cons_zero, List.set_cons_succ]
    refine wpAnyH_take (i := 2) (oi := ⟨some 34, _, _, _, _, _⟩) (v := ?_) rfl (by kernel_rfl) (by kernel_rfl) (by kernel_rfl) (fun _ _ _ h => h) (Or.inl ⟨by rfl, ?_⟩) (by assumption) ?_
    rotate_left
    · intro w hSw; (try dsimp only at hSw); go_simp; (try with_reducible rfl)
    try simp only [Act.put, List.setIfInBounds_toArray, List.set_cons_zero, List.set_cons_succ]
    refine wpAnyH_take (i := 3) (oi := ⟨some 35, _, _, _, _, _⟩) (v := ?_) rfl (by kernel_rfl) (by kernel_rfl) (by kernel_rfl) (fun _ _ _ h => h) (Or.inl ⟨by rfl, ?_⟩) (by assumption) ?_
    rotate_left
    · intro w hSw; have zc := HM2.out _ hSw; (try dsimp only at hSw); go_simp; (try with_reducible rfl)
    try simp only [Act.put, List.setIfInBounds_toArray, List.set_cons_zero, List.set_cons_succ]
    refine wpAnyH_take (i := 4) (oi := ⟨some 36, _, _, _, _, _⟩) (v := ?_) rfl (by kernel_rfl) (by kernel_rfl) (by kernel_rfl) (fun _ _ _ h => h) (Or.inl ⟨by rfl, ?_⟩) (by assumption) ?_
    rotate_left
    · intro w hSw; (try dsimp only at hSw); go_simp; (try with_reducible rfl)
    try simp only [Act.put, List.setIfInBounds_toArray, List.set_cons_zero, List.set_cons_succ]
    refine wpAnyH_take (i := 5) (oi := ⟨some 37, _, _, _, _, _⟩) (v := ?_) rfl (by kernel_rfl) (by kernel_rfl) (by kernel_rfl) (fun _ _ _ h => h) (Or.inl ⟨by rfl, ?_⟩) (by assumption) ?_
    rotate_left
    · intro w hSw; (try dsimp only at hSw); go_simp; (try with_reducible rfl)
    try simp only [Act.put, List.setIfInBounds_toArray, List.set_cons_zero, List.set_cons_succ]
    refine wpAnyH_take (i := 6) (oi := ⟨some 38, _, _, _, _, _⟩) (v := ?_) rfl (by kernel_rfl) (by kernel_rfl) (by kernel_rfl) (fun _ _ _ h => h) (Or.inl ⟨by rfl, ?_⟩) (by assumption) ?_
    rotate_left
    · intro w hSw; (try dsimp only at hSw); go_simp; (try with_reducible rfl)
    try simp only [Act.put, List.setIfInBounds_toArray, List.set_cons_zero, List.set_cons_succ]
    refine wpAnyH_take (i := 7) (oi := ⟨some 39, _, _, _, _, _⟩) (v := ?_) rfl (by kernel_rfl) (by kernel_rfl) (by kernel_rfl) (fun _ _ _ h => h) (Or.inl ⟨by rfl, ?_⟩) (by assumption) ?_
    rotate_left
    · intro w hSw; have zc := HZ2.out _ hSw; (try dsimp only at hSw); go_simp; (try with_reducible rfl)
    try simp only [Act.put, List.setIfInBounds_toArray, List.set_cons_zero, List.set_cons_succ]
    refine wpAnyH_take (i := 8) (oi := ⟨some 40, _, _, _, _, _⟩) (v := ?_) rfl (by kernel_rfl) (by kernel_rfl) (by kernel_rfl) (fun _ _ _ h => h) (Or.inl ⟨by rfl, ?_⟩) (by assumption) ?_
    rotate_left
    · intro w hSw; (try dsimp only at hSw); go_simp; (try with_reducible rfl)
    try simp only [Act.put, List.setIfInBounds_toArray, List.set_cons_zero, List.set_cons_succ]
    refine wpAnyH_take (i := 9) (oi := ⟨some 41, _, _, _, _, _⟩) (v := ?_) rfl (by kernel_rfl) (by kernel_rfl) (by kernel_rfl) (fun _ _ _ h => h) (Or.inl ⟨by rfl, ?_⟩) (by assumption) ?_
    rotate_left
    · intro w hSw; (try dsimp only at hSw); go_simp; (try with_reducible rfl)
    try simp only [Act.put, List.setIfInBounds_toArray, List.set_cons_zero, List.set_cons_succ]
    refine wpAnyH_take (i := 10) (oi := ⟨some 42, _, _, _, _, _⟩) (v := ?_) rfl (by kernel_rfl) (by kernel_rfl) (by kernel_rfl) (fun _ _ _ h => h) (Or.inl ⟨by rfl, ?_⟩) (by assumption) ?_
    rotate_left
    · intro w hSw; (try dsimp only at hSw); go_simp; (try with_reducible rfl)
    try simp only [Act.put, List.setIfInBounds_toArray, List.set_cons_zero, List.set_cons_succ]
    refine wpAnyH_take (i := 11) (oi := ⟨some 43, _, _, _, _, _⟩) (v := ?_) rfl (by kernel_rfl) (by kernel_rfl) (by kernel_rfl) (fun _ _ _ h => h) (Or.inl ⟨by rfl, ?_⟩) (by assumption) ?_
    rotate_left
    · intro w hSw; have zc := HN2.out _ hSw; (try dsimp only at hSw); go_simp; (try with_reducible rfl)
    try simp only [Act.put, List.setIfInBounds_toArray, List.set_cons_zero, List.set_cons_succ]
    refine wpAnyH_take (i := 12) (oi := ⟨some 44, _, _, _, _, _⟩) (v := ?_) rfl (by kernel_rfl) (by kernel_rfl) (by kernel_rfl) (fun _ _ _ h => h) (Or.inl ⟨by rfl, ?_⟩) (by assumption) ?_
    rotate_left
    · intro w hSw; (try dsimp only at hSw); go_simp; (try with_reducible rfl)
    try simp only [Act.put, List.setIfInBounds_toArray, List.set_cons_zero, List.set_cons_succ]
    refine wpAnyH_ready (rs := [13]) (by kernel_rfl) (by simp) (AllReadyH.cons (o := ⟨none, _, _, _, _, _⟩) rfl (fun Kc hKc => ?_) AllReadyH.nil)
    rw [if_pos (by rfl)]
    refine step_putP (w := w2.drew) (HP2.out.keep rfl) (by omega) _ _ _ rfl y.num KY.out i (by omega) rfl rfl rfl ?_; intro w3 hp3 ho3; have HP3 := Go.Lib.hid hp3; have HO3 := Go.Lib.hid ho3; clear hp3 ho3
    refine hKc.out _ _ (hHeld.trans HO3.out.gro) (fun hHeld => ?_)
    clear hKc Kc
    try simp only [Act.put, List.setIfInBounds_toArray, List.set_cons_zero, List.set_cons_succ]
    refine wpAnyH_done (by kernel_rfl) ?_ _
    have yq3 := hHeld
    clear hHeld
    have HG3 := Go.Lib.hid (HG2.out.gro yq3 hgm)
    have HR3 := Go.Lib.hid (own_keep (w' := w3) HR2.out (yq3.block r (own_ltI HR2.out r rfl) hrm))
    have HM3 : Hid (∀ Y, Gro mb w3 Y → Y.cell? ⟨g, 1, none⟩ = some (.map (some mb))) := Go.Lib.hid (fun Y y => (HG3.out.gro y hgm).cell 1 rfl)
    have HZ3 : Hid (∀ Y, Gro mb w3 Y → Y.cell? ⟨g, 0, none⟩ = some (.slice (some ⟨r, 0, none⟩) n c)) := Go.Lib.hid (fun Y y => (HG3.out.gro y hgm).cell 0 rfl)
    have HN3 : Hid (∀ Y, Gro mb w3 Y → Y.cell? ⟨r, j * 2, none⟩ = some (.int .i64 x.num)) := Go.Lib.hid (fun Y y' => by
      have hk := own_keep (w' := Y) HR3.out (y'.block r (own_ltI HR3.out r rfl) hrm)
      rw [own_cells hk (j * 2) (by omega), HAJ.out])
    have HP3 : Hid (PmAt w3 mb (putF (findH l) y.num i) n) := Go.Lib.hid (by have := HP3.out; rwa [HFY.out] at this)
    go_upto_region 2 with fail
    try simp only [Act.put, List.setIfInBounds_toArray, List.set_cons_zero, List.set_cons_succ]
    refine wp_region_held_drew (S := fun Y => Gro mb w3 Y) (by kernel_rfl) ?_ (fun hHeld => ?_)
    · exact (gro_below (below_drew (Below.refl _ _)))
    refine wpAnyH_take (i := 0) (oi := ⟨some 45, _, _, _, _, _⟩) (v := ?_) rfl (by kernel_rfl) (by kernel_rfl) (by kernel_rfl) (fun _ _ _ h => h) (Or.inl ⟨by rfl, ?_⟩) (by assumption) ?_
    rotate_left
    · intro w hSw; (try dsimp only at hSw); go_simp; (try with_reducible rfl)
    try simp only [Act.put, List.setIfInBounds_toArray, List.set_cons_zero, List.set_cons_succ]
    refine wpAnyH_take (i := 1) (oi := ⟨some 46, _, _, _, _, _⟩) (v := ?_) rfl (by kernel_rfl) (by kernel_rfl) (by kernel_rfl) (fun _ _ _ h => h) (Or.inl ⟨by rfl, ?_⟩) (by assumption) ?_
    rotate_left
    · intro w hSw; (try dsimp only at hSw); go_simp; (try with_reducible rfl)
    try simp only [Act.put, List.setIfInBounds_toArray, List.set_cons_zero, List.set_cons_succ]
    refine wpAnyH_take (i := 2) (oi := ⟨some 47, _, _, _, _, _⟩) (v := ?_) rfl (by kernel_rfl) (by kernel_rfl) (by kernel_rfl) (fun _ _ _ h => h) (Or.inl ⟨by rfl, ?_⟩) (by assumption) ?_
    rotate_left
    · intro w hSw; (try dsimp only at hSw); go_simp; (try with_reducible rfl)
    try simp only [Act.put, List.setIfInBounds_toArray, List.set_cons_zero, List.set_cons_succ]
    refine wpAnyH_take (i := 3) (oi := ⟨some 48, _, _, _, _, _⟩) (v := ?_) rfl (by kernel_rfl) (by kernel_rfl) (by kernel_rfl) (fun _ _ _ h => h) (Or.inl ⟨by rfl, ?_⟩) (by assumption) ?_
    rotate_left
    · intro w hSw; have zc := HM3.out _ hSw; (try dsimp only at hSw); go_simp; (try with_reducible rfl)
    try simp only [Act.put, List.setIfInBounds_toArray, List.set_cons_zero, List.set_cons_succ]
    refine wpAnyH_take (i := 4) (oi := ⟨some 49, _, _, _, _, _⟩) (v := ?_) rfl (by kernel_rfl) (by kernel_rfl) (by kernel_rfl) (fun _ _ _ h => h) (Or.inl ⟨by rfl, ?_⟩) (by assumption) ?_
    rotate_left
    · intro w hSw; (try dsimp only at hSw); go_simp; (try with_reducible rfl)
    try simp only [Act.put, List.setIfInBounds_toArray, List.set_cons_zero, List.set_cons_succ]
    refine wpAnyH_take (i := 5) (oi := ⟨some 50, _, _, _, _, _⟩) (v := ?_) rfl (by kernel_rfl) (by kernel_rfl) (by kernel_rfl) (fun _ _ _ h => h) (Or.inl ⟨by rfl, ?_⟩) (by assumption) ?_
    rotate_left
    · intro w hSw; (try dsimp only at hSw); go_simp; (try with_reducible rfl)
    try simp only [Act.put, List.setIfInBounds_toArray, List.set_cons_zero, List.set_cons_succ]
    refine wpAnyH_take (i := 6) (oi := ⟨some 51, _, _, _, _, _⟩) (v := ?_) rfl (by kernel_rfl) (by kernel_rfl) (by kernel_rfl) (fun _ _ _ h => h) (Or.inl ⟨by rfl, ?_⟩) (by assumption) ?_
    rotate_left
    · intro w hSw; (try dsimp only at hSw); go_simp; (try with_reducible rfl)
    try simp only [Act.put, List.setIfInBounds_toArray, List.set_cons_zero, List.set_cons_succ]
    refine wpAnyH_take (i := 7) (oi := ⟨some 52, _, _, _, _, _⟩) (v := ?_) rfl (by kernel_rfl) (by kernel_rfl) (by kernel_rfl) (fun _ _ _ h => h) (Or.inl ⟨by rfl, ?_⟩) (by assumption) ?_
    rotate_left
    · intro w hSw; have zc := HZ3.out _ hSw; (try dsimp only at hSw); go_simp; (try with_reducible rfl)
    try simp only [Act.put, List.setIfInBounds_toArray, List.set_cons_zero, List.set_cons_succ]
    refine wpAnyH_take (i := 8) (oi := ⟨some 53, _, _, _, _, _⟩) (v := ?_) rfl (by kernel_rfl) (by kernel_rfl) (by kernel_rfl) (fun _ _ _ h => h) (Or.inl ⟨by rfl, ?_⟩) (by assumption) ?_
    rotate_left
    · intro w hSw; (try dsimp only at hSw); go_simp; (try with_reducible rfl)
    try simp only [Act.put, List.setIfInBounds_toArray, List.set_cons_zero, List.set_cons_succ]
    refine wpAnyH_take (i := 9) (oi := ⟨some 54, _, _, _, _, _⟩) (v := ?_) rfl (by kernel_rfl) (by kernel_rfl) (by kernel_rfl) (fun _ _ _ h => h) (Or.inl ⟨by rfl, ?_⟩) (by assumption) ?_
    rotate_left
    · intro w hSw; (try dsimp only at hSw); go_simp; (try with_reducible rfl)
    try simp only [Act.put, List.setIfInBounds_toArray, List.set_cons_zero, List.set_cons_succ]
    refine wpAnyH_take (i := 10) (oi := ⟨some 55, _, _, _, _, _⟩) (v := ?_) rfl (by kernel_rfl) (by kernel_rfl) (by kernel_rfl) (fun _ _ _ h => h) (Or.inl ⟨by rfl, ?_⟩) (by assumption) ?_
    rotate_left
    · intro w hSw; (try dsimp only at hSw); go_simp; (try with_reducible rfl)
    try simp only [Act.put, List.setIfInBounds_toArray, List.set_cons_zero, List.set_cons_succ]
    refine wpAnyH_take (i := 11) (oi := ⟨some 56, _, _, _, _, _⟩) (v := ?_) rfl (by kernel_rfl) (by kernel_rfl) (by kernel_rfl) (fun _ _ _ h => h) (Or.inl ⟨by rfl, ?_⟩) (by assumption) ?_
    rotate_left
    · intro w hSw; have zc := HN3.out _ hSw; (try dsimp only at hSw); go_simp; (try with_reducible rfl)
    try simp only [Act.put, List.setIfInBounds_toArray, List.set_cons_zero, List.set_cons_succ]
    refine wpAnyH_take (i := 12) (oi := ⟨some 57, _, _, _, _, _⟩) (v := ?_) rfl (by kernel_rfl) (by kernel_rfl) (by kernel_rfl) (fun _ _ _ h => h) (Or.inl ⟨by rfl, ?_⟩) (by assumption) ?_
    rotate_left
    · intro w hSw; (try dsimp only at hSw); go_simp; (try with_reducible rfl)
    try simp only [Act.put, List.setIfInBounds_toArray, List.set_cons_zero, List.set_cons_succ]
    refine wpAnyH_ready (rs := [13]) (by kernel_rfl) (by simp) (AllReadyH.cons (o := ⟨none, _, _, _, _, _⟩) rfl (fun Kc hKc => ?_) AllReadyH.nil)
    rw [if_pos (by rfl)]
    refine step_putP (w := w3.drew) (HP3.out.keep rfl) (by omega) _ _ _ rfl x.num KX.out j (by omega) rfl rfl rfl ?_; intro w4 hp4 ho4; have HP4 := Go.Lib.hid hp4; have HO4 := Go.Lib.hid ho4; clear hp4 ho4
    refine hKc.out _ _ (hHeld.trans HO4.out.gro) (fun hHeld => ?_)
    clear hKc Kc
    try simp only [Act.put, List.setIfInBounds_toArray, List.set_cons_zero, List.set_cons_succ]
    refine wpAnyH_done (by kernel_rfl) ?_ _
    have yq4 := hHeld
    clear hHeld
    have HP4 : Hid (PmAt w4 mb (putF (putF (findH l) y.num i) x.num j) n) := Go.Lib.hid (by have := HP4.out; rwa [HFX.out] at this)
    have HG4 := Go.Lib.hid (HG3.out.gro yq4 hgm)
    have HR4 := Go.Lib.hid (own_keep (w' := w4) HR3.out (yq4.block r (own_ltI HR3.out r rfl) hrm))
    go_wp2
    go_end0
    refine ⟨rfl, GR.mk' HNL.out HG4.out HR4.out ?_ HGR.out, (gro_moves yq HF.out.1).trans ((gro_moves yq3 HF.out.2).trans (gro_moves yq4 HF.out.2))⟩
    rw [HMP.out]
    exact HP4.out
end Go.Proofs.Ytofpalmghdapkaa

/- A wheel as a heap in a struct, its places in a map: Pop, Push. -/
namespace Go.Proofs.Ytofpalmghdapkaa
open Go.ChangeShapes Go.WideShapes Go.ChangeAt Go.RowKit
set_option linter.unusedVariables false
set_option linter.unusedSimpArgs false

theorem info_slg : (Try.prog.info? 91).map (·.size) = some 1 := by kernel_rfl
theorem info_algz : (Try.prog.info? 104).map (fun i => (i.zero, i.size, i.bytes)) = some (some (.agg #[.int .i64 0, .int .i64 0]), 2, 16) := by kernel_rfl
/-- the last one is taken from the list, but its place stands still. -/
structure GRp (w : World) (g : Nat) (l : List Al) (n : Nat) (now : Int) (F : Nat → Prop) (A : Option Addr) (c mb : Nat) : Prop where
  box : Bxo w g 96 [.slice A n c, .map (some mb), .int .i64 now]
  row : w.ownsRow 0 104 2 (.slice A n c) n ((l.take n).flatMap Al.L)
  map : PmAt w mb (findH l) (n + 1)
  len : l.length = n + 1
  o : GRo g l F A mb
/-- an alarm in an interface. -/
def anyA (a : Al) : Value := .iface 104 (.agg #[.int .i64 a.num, .int .i64 a.at_])
/-- a row's last one is taken off. -/
theorem own_cut {w : World} {l : List Al} {r n c : Nat} (h : w.ownsRow 0 104 2 (.slice (some ⟨r, 0, none⟩) (n + 1) c) (n + 1) (l.flatMap Al.L)) : w.ownsRow 0 104 2 (.slice (some ⟨r, 0, none⟩) n c) n ((l.take n).flatMap Al.L) := by
  obtain ⟨cur, k1, k2, k3, k4, k5, k6, k7⟩ := own_open h
  refine own_shut k1 k2 ?_ k4 (by omega) k6 ?_
  · rw [← flat_take Al.L 2 Al.len, ← k3, List.take_take, Nat.min_eq_left (by omega)]
  · rw [← flat_take Al.L 2 Al.len, List.length_take, k7, Nat.min_eq_left (by omega)]
set_option maxRecDepth 100000 in
set_option maxHeartbeats 8000000 in
theorem gpop {w : World} {g : Nat} {l : List Al} {now : Int} {F : Nat → Prop} {A : Option Addr} {c mb : Nat} (h : GR w g l now F A c mb) (n : Nat) (v : Value) (hn : l.length = n + 1) (hv : anyA (atA l n) = v) :
    Calls Try.prog 85 #[.pointer (some ⟨g, 0, none⟩)] w fun e w' => e = .returned v ∧ GRp w' g l n now F A c mb ∧ Moves w w' F := by
  have hl : n < l.length := by omega
  obtain ⟨r, rfl, hr, hci⟩ := h.cell hl
  have hnc := (own_cap h.row).1
  have hsz := h.size
  have hgm := h.g1
  have hrg : r ≠ g := some_ne h.g2
  have hrm : r ≠ mb := some_ne h.g3
  have HF : Hid (F g ∧ F mb) := Go.Lib.hid ⟨(h.blocks g).2 (.inl rfl), (h.blocks mb).2 (.inr (.inl rfl))⟩
  have HGR := Go.Lib.hid h.o
  have HL := Go.Lib.hid hn
  have hb0 := h.box
  have hr0 := h.row
  have hp0 := h.map
  rw [hn] at hb0 hr0 hp0 hnc hsz
  have HB := Go.Lib.hid hb0
  have HR := Go.Lib.hid (own_cut hr0)
  have HP := Go.Lib.hid hp0
  obtain ⟨x, hx⟩ : ∃ x, atA l n = x := ⟨_, rfl⟩
  rw [hx] at hci hv
  have HX := Go.Lib.hid (hci w rfl)
  have hvx : v = .iface 104 (.agg #[.int .i64 x.num, .int .i64 x.at_]) := hv.symm
  subst hvx
  have y1 : Below w.heap.size w (w.alloc (.cells #[.int .i64 x.num, .int .i64 x.at_] 104)) := (Below.refl _ _).alloc (Nat.le_refl _) _
  have hbx := Bxo.made w 104 (alL x)
  have c0 := HB.out.cell 0 rfl
  have n0 : IntKind.i64.wrap ((n : Int) + 1 - 1) = (n : Nat) := by rw [IntWalk.i64_in _ (by omega)]; omega
  have n1 : (0 : Int) ≤ (n : Int) := by omega
  have n2 : (n : Int) < (n : Int) + 1 := by omega
  have n3 : (n : Int) ≤ (c : Int) := by omega
  clear h hci hv hb0 hr0 hp0 hn hx
  go_enter Try.func85, Try.ntmps85
  go_upto_region 3 with (refine wpList_load_at rfl 104 _ rfl ⟨r, n * 2, none⟩ rfl (alL x) _ HX.out Try.underlying104 rfl info_alg ?_)
  have hgl := HB.out.lt
  have hml := HP.out.lt
  have HB1 := Go.Lib.hid (HB.out.keep y1 hgl)
  have HR1 := Go.Lib.hid (own_keep (w' := w.alloc (.cells #[.int .i64 x.num, .int .i64 x.at_] 104)) HR.out (y1.block r hr))
  have HP1 := Go.Lib.hid (HP.out.keep (y1.block mb hml))
  have hs1 : (w.alloc (.cells #[.int .i64 x.num, .int .i64 x.at_] 104)).heap.size = w.heap.size + 1 := by simp
  clear c0
  generalize w.alloc (.cells #[.int .i64 x.num, .int .i64 x.at_] 104) = w1 at *
  have c0 := HB1.out.cell 0 rfl
  go_upto_region 4 with (refine wpList_store_any rfl 91 _ _ rfl g 0 96 _ [.slice (some ⟨r, 0, none⟩) n c] _ rfl rfl rfl HB1.out info_slg (by show 0 + 1 ≤ 3; omega) (by simp [Value.oneCell']) ?_; intro w2 hb2 ho2; have HG2 : Hid (Bxo w2 g 96 [.slice (some ⟨r, 0, none⟩) n c, .map (some mb), .int .i64 now]) := Go.Lib.hid hb2; have HO2 := Go.Lib.hid ho2; clear hb2 ho2)
  have hs2 := HO2.out.size
  have HX2 := Go.Lib.hid ((show Bxo w1 w.heap.size 104 (alL x) from hbx).only HO2.out (by omega))
  have HR2 := Go.Lib.hid (own_keep (w' := w2) HR1.out (HO2.out.block r hrg))
  have HP2 := Go.Lib.hid (HP1.out.keep (HO2.out.block mb (Ne.symm hgm)))
  clear hbx c0
  go_wp2_with (refine wpList_load_box rfl 104 _ rfl w.heap.size rfl (alL x) _ HX2.out Try.underlying104 rfl info_alg ?_)
  go_ret
  exact ⟨rfl, ⟨HG2.out, HR2.out, HP2.out, HL.out, HGR.out⟩, (moves_below y1).trans (gro_moves (F := F) HO2.out.gro HF.out.1)⟩
end Go.Proofs.Ytofpalmghdapkaa

/- A wheel as a heap in a struct, its places in a map: Push. -/
namespace Go.Proofs.Ytofpalmghdapkaa
open Go.ChangeShapes Go.WideShapes Go.ChangeAt Go.RowKit
set_option linter.unusedVariables false
set_option linter.unusedSimpArgs false

theorem run_assert_struct {P : Program} {w : World} (t xT : TypeId) (v : Value) (fs : Array Field) (h : P.underlying t = some (.struct fs)) : (Instr.typeAssert (.iface t v) xT t false).run P w = .ok v w := by
  simp [Instr.typeAssert, Sem.run_bind, run_underlying h]
theorem assertA (a : Al) (w : World) : (Instr.typeAssert (.iface 104 (.agg #[.int .i64 a.num, .int .i64 a.at_])) 20 104 false).run Try.prog w = .ok (.agg #[.int .i64 a.num, .int .i64 a.at_]) w := run_assert_struct _ _ _ _ Try.underlying104
set_option maxRecDepth 100000 in
set_option maxHeartbeats 8000000 in
theorem gpush {w : World} {g : Nat} {l : List Al} {now : Int} {F : Nat → Prop} {A : Option Addr} {c mb : Nat} (h : GR w g l now F A c mb) (a : Al) (ha : 0 ≤ a.num ∧ a.num ≤ 2147483647) (hl : l.length < 256) (hne : ∀ b ∈ l, b.num ≠ a.num) :
    Calls Try.prog 86 #[.pointer (some ⟨g, 0, none⟩), .iface 104 (.agg #[.int .i64 a.num, .int .i64 a.at_])] w fun e w' => e = .returned (.tuple #[]) ∧ ∃ F', (∃ A' c' mb', GR w' g (l ++ [a]) now F' A' c' mb') ∧ Newer w F F' ∧ Moves w w' F := by
  have hnc := (own_cap h.row)
  unfold maxLen at hnc
  have hgm := h.g1
  have HF : Hid (F g ∧ F mb) := Go.Lib.hid ⟨(h.blocks g).2 (.inl rfl), (h.blocks mb).2 (.inr (.inl rfl))⟩
  have HA : Hid (blk A ≠ some g ∧ blk A ≠ some mb ∧ ∀ b, blk A = some b → F b) := Go.Lib.hid ⟨h.g2, h.g3, fun b e => (h.blocks b).2 (.inr (.inr e))⟩
  have HGR : Hid (OnceA (l ++ [a]) ∧ (∀ b ∈ l ++ [a], 0 ≤ b.num ∧ b.num ≤ 2147483647) ∧ (l ++ [a]).length ≤ 256) := Go.Lib.hid ⟨h.once.snoc hne, fun b hb => (List.mem_append.1 hb).elim (h.rng b) (fun q => by rw [List.mem_singleton.1 q]; exact ha), by rw [List.length_append]; show l.length + 1 ≤ 256; omega⟩
  have hFx : ¬ F w.heap.size := fun f => by have := h.lt _ f; omega
  have HMP0 : findH (l ++ [a]) = putF (findH l) a.num l.length := funext fun z => by rw [find_snoc h.once hne z]; rfl
  have hno : (findH l a.num).isSome = false := by rw [find_not hne]; rfl
  have hnl : (l ++ [a]).length = l.length + 1 := by rw [List.length_append]; rfl
  have hb0 := h.box
  have hr0 := h.row
  have hp0 := h.map
  obtain ⟨n, hn⟩ : ∃ n, l.length = n := ⟨_, rfl⟩
  rw [hn] at hb0 hr0 hp0 hnc HMP0 hl hnl
  have HNL := Go.Lib.hid hnl
  have HNO : Hid ((if (findH l a.num).isSome then n else n + 1) = n + 1) := Go.Lib.hid (by rw [hno]; rfl)
  have HMP := Go.Lib.hid HMP0
  have HB := Go.Lib.hid hb0
  have HR := Go.Lib.hid hr0
  have HP := Go.Lib.hid hp0
  have KX := Go.Lib.hid (wfI (z := a.num) (by omega) (by omega))
  have y1 : Below w.heap.size w (w.alloc (.cells #[.int .i64 a.num, .int .i64 a.at_] 104)) := (Below.refl _ _).alloc (Nat.le_refl _) _
  have hbx := Bxo.made w 104 (alL a)
  obtain ⟨i0_, hi_, hz0, hz1, hz2⟩ := info_parts info_algz
  clear h HMP0 hno hnl hb0 hr0 hp0 hn hne
  have tA := assertA a
  go_enter Try.func86, Try.ntmps86
  go_upto_region 1 with fail
  have hgl := HB.out.lt
  have hml := HP.out.lt
  have HB1 := Go.Lib.hid (HB.out.keep y1 hgl)
  have HR1 := Go.Lib.hid (own_keepA (w' := w.alloc (.cells #[.int .i64 a.num, .int .i64 a.at_] 104)) HR.out (fun b hb => y1.block b (own_ltI HR.out b hb)))
  have HP1 := Go.Lib.hid (HP.out.keep (y1.block mb hml))
  have hs1 : (w.alloc (.cells #[.int .i64 a.num, .int .i64 a.at_] 104)).heap.size = w.heap.size + 1 := by simp
  generalize w.alloc (.cells #[.int .i64 a.num, .int .i64 a.at_] 104) = w1 at *
  have HX1 := Go.Lib.hid (show Bxo w1 w.heap.size 104 (alL a) from hbx)
  have HM1 : Hid (∀ Y, Gro mb w1 Y → Y.cell? ⟨g, 1, none⟩ = some (.map (some mb))) := Go.Lib.hid (fun Y y => (HB1.out.gro y hgm).cell 1 rfl)
  have HZ1 : Hid (∀ Y, Gro mb w1 Y → Y.cell? ⟨g, 0, none⟩ = some (.slice A n c)) := Go.Lib.hid (fun Y y => (HB1.out.gro y hgm).cell 0 rfl)
  have HN1 : Hid (∀ Y, Gro mb w1 Y → Y.cell? ⟨w.heap.size, 0, none⟩ = some (.int .i64 a.num)) := Go.Lib.hid (fun Y y => (HX1.out.gro y (by omega)).cell 0 rfl)
  clear hbx
  try simp only [Act.put, List.setIfInBounds_toArray, List.set_cons_zero, List.set_cons_succ]
  refine wp_region_held_drew (S := fun Y => Gro mb w1 Y) (by kernel_rfl) ?_ (fun hHeld => ?_)
  · exact (gro_below (below_drew (Below.refl _ _)))
  refine wpAnyH_take (i := 0) (oi := ⟨some 7, _, _, _, _, _⟩) (v := ?_) rfl (by kernel_rfl) (by kernel_rfl) (by kernel_rfl) (fun _ _ _ h => h) (Or.inl ⟨by rfl, ?_⟩) (by assumption) ?_
  rotate_left
  · intro w hSw; (try dsimp only at hSw); go_simp; (try with_reducible rfl)
  try simp only [Act.put, List.setIfInBounds_toArray, List.set_cons_zero, List.set_cons_succ]
  refine wpAnyH_take (i := 1) (oi := ⟨some 8, _, _, _, _, _⟩) (v := ?_) rfl (by kernel_rfl) (by kernel_rfl) (by kernel_rfl) (fun _ _ _ h => h) (Or.inl ⟨by rfl, ?_⟩) (by assumption) ?_
  rotate_left
  · intro w hSw; (try dsimp only at hSw); go_simp; (try with_reducible rfl)
  try simp only [Act.put, List.setIfInBounds_toArray, List.set_cons_zero, List.set_cons_succ]
  refine wpAnyH_take (i := 2) (oi := ⟨some 9, _, _, _, _, _⟩) (v := ?_) rfl (by kernel_rfl) (by kernel_rfl) (by kernel_rfl) (fun _ _ _ h => h) (Or.inl ⟨by rfl, ?_⟩) (by assumption) ?_
  rotate_left
  · intro w hSw; (try dsimp only at hSw); go_simp; (try with_reducible rfl)
  try simp only [Act.put, List.setIfInBounds_toArray, List.set_cons_zero, List.set_cons_succ]
  refine wpAnyH_take (i := 3) (oi := ⟨some 10, _, _, _, _, _⟩) (v := ?_) rfl (by kernel_rfl) (by kernel_rfl) (by kernel_rfl) (fun _ _ _ h => h) (Or.inl ⟨by rfl, ?_⟩) (by assumption) ?_
  rotate_left
  · intro w hSw; have zc := HM1.out _ hSw; (try dsimp only at hSw); go_simp; (try with_reducible rfl)
  try simp only [Act.put, List.setIfInBounds_toArray, List.set_cons_zero, List.set_cons_succ]
  refine wpAnyH_take (i := 4) (oi := ⟨some 11, _, _, _, _, _⟩) (v := ?_) rfl (by kernel_rfl) (by kernel_rfl) (by kernel_rfl) (fun _ _ _ h => h) (Or.inl ⟨by rfl, ?_⟩) (by assumption) ?_
  rotate_left
  · intro w hSw; (try dsimp only at hSw); go_simp; (try with_reducible rfl)
  try simp only [Act.put, List.setIfInBounds_toArray, List.set_cons_zero, List.set_cons_succ]
  refine wpAnyH_take (i := 5) (oi := ⟨some 12, _, _, _, _, _⟩) (v := ?_) rfl (by kernel_rfl) (by kernel_rfl) (by kernel_rfl) (fun _ _ _ h => h) (Or.inl ⟨by rfl, ?_⟩) (by assumption) ?_
  rotate_left
  · intro w hSw; have zc := HN1.out _ hSw; (try dsimp only at hSw); go_simp; (try with_reducible rfl)
  try simp only [Act.put, List.setIfInBounds_toArray, List.set_cons_zero, List.set_cons_succ]
  refine wpAnyH_take (i := 6) (oi := ⟨some 13, _, _, _, _, _⟩) (v := ?_) rfl (by kernel_rfl) (by kernel_rfl) (by kernel_rfl) (fun _ _ _ h => h) (Or.inl ⟨by rfl, ?_⟩) (by assumption) ?_
  rotate_left
  · intro w hSw; (try dsimp only at hSw); go_simp; (try with_reducible rfl)
  try simp only [Act.put, List.setIfInBounds_toArray, List.set_cons_zero, List.set_cons_succ]
  refine wpAnyH_take (i := 7) (oi := ⟨some 14, _, _, _, _, _⟩) (v := ?_) rfl (by kernel_rfl) (by kernel_rfl) (by kernel_rfl) (fun _ _ _ h => h) (Or.inl ⟨by rfl, ?_⟩) (by assumption) ?_
  rotate_left
  · intro w hSw; (try dsimp only at hSw); go_simp; (try with_reducible rfl)
  try simp only [Act.put, List.setIfInBounds_toArray, List.set_cons_zero, List.set_cons_succ]
  refine wpAnyH_take (i := 8) (oi := ⟨some 15, _, _, _, _, _⟩) (v := ?_) rfl (by kernel_rfl) (by kernel_rfl) (by kernel_rfl) (fun _ _ _ h => h) (Or.inl ⟨by rfl, ?_⟩) (by assumption) ?_
  rotate_left
  · intro w hSw; (try dsimp only at hSw); go_simp; (try with_reducible rfl)
  try simp only [Act.put, List.setIfInBounds_toArray, List.set_cons_zero, List.set_cons_succ]
  refine wpAnyH_take (i := 9) (oi := ⟨some 16, _, _, _, _, _⟩) (v := ?_) rfl (by kernel_rfl) (by kernel_rfl) (by kernel_rfl) (fun _ _ _ h => h) (Or.inl ⟨by rfl, ?_⟩) (by assumption) ?_
  rotate_left
  · intro w hSw; have zc := HZ1.out _ hSw; (try dsimp only at hSw); go_simp; (try with_reducible rfl)
  try simp only [Act.put, List.setIfInBounds_toArray, List.set_cons_zero, List.set_cons_succ]
  refine wpAnyH_take (i := 10) (oi := ⟨some 17, _, _, _, _, _⟩) (v := ?_) rfl (by kernel_rfl) (by kernel_rfl) (by kernel_rfl) (fun _ _ _ h => h) (Or.inl ⟨by rfl, ?_⟩) (by assumption) ?_
  rotate_left
  · intro w hSw; (try dsimp only at hSw); go_simp; (try with_reducible rfl)
  try simp only [Act.put, List.setIfInBounds_toArray, List.set_cons_zero, List.set_cons_succ]
  refine wpAnyH_ready (rs := [11]) (by kernel_rfl) (by simp) (AllReadyH.cons (o := ⟨none, _, _, _, _, _⟩) rfl (fun Kc hKc => ?_) AllReadyH.nil)
  rw [if_pos (by rfl)]
  refine step_putP (w := w1.drew) (HP1.out.keep rfl) (by omega) _ _ _ rfl a.num KX.out n (by omega) rfl rfl rfl ?_; intro w2 hp2 ho2; have HP2 := Go.Lib.hid hp2; have HO2 := Go.Lib.hid ho2; clear hp2 ho2
  refine hKc.out _ _ (hHeld.trans HO2.out.gro) (fun hHeld => ?_)
  clear hKc Kc
  try simp only [Act.put, List.setIfInBounds_toArray, List.set_cons_zero, List.set_cons_succ]
  refine wpAnyH_done (by kernel_rfl) ?_ _
  have yp := hHeld
  clear hHeld
  have hs2 := yp.size
  have HP2 : Hid (PmAt w2 mb (putF (findH l) a.num n) (n + 1)) := Go.Lib.hid (by have := HP2.out; rwa [HNO.out] at this)
  have HG2 := Go.Lib.hid (HB1.out.gro yp hgm)
  have HX2 := Go.Lib.hid (HX1.out.gro yp (by omega))
  have HR2 := Go.Lib.hid (own_keepA (w' := w2) HR1.out (fun b hb => yp.block b (own_ltI HR1.out b hb) (fun e => HA.out.2.1 (by rw [hb, e]))))
  have HBg := Go.Lib.hid (HG2.out.drew)
  go_upto_region 2 with fail
  try simp only [Act.put, List.setIfInBounds_toArray, List.set_cons_zero, List.set_cons_succ]
  refine wp_region_held_drew (S := fun Y => Moves w2 Y F) (by kernel_rfl) ?_ (fun hHeld => ?_)
  · exact moves_below (below_drew (Below.refl _ _))
  refine wpAnyH_take (i := 0) (oi := ⟨some 18, _, _, _, _, _⟩) (v := ?_) rfl (by kernel_rfl) (by kernel_rfl) (by kernel_rfl) (fun _ _ _ h => h) (Or.inl ⟨by rfl, ?_⟩) (by assumption) ?_
  rotate_left
  · intro w hSw; (try dsimp only at hSw); go_simp; (try with_reducible rfl)
  try simp only [Act.put, List.setIfInBounds_toArray, List.set_cons_zero, List.set_cons_succ]
  refine wpAnyH_take (i := 1) (oi := ⟨some 19, _, _, _, _, _⟩) (v := ?_) rfl (by kernel_rfl) (by kernel_rfl) (by kernel_rfl) (fun _ _ _ h => h) (Or.inl ⟨by rfl, ?_⟩) (by assumption) ?_
  rotate_left
  · intro w hSw; (try dsimp only at hSw); go_simp; (try with_reducible rfl)
  try simp only [Act.put, List.setIfInBounds_toArray, List.set_cons_zero, List.set_cons_succ]
  refine wpAnyH_take (i := 2) (oi := ⟨some 20, _, _, _, _, _⟩) (v := ?_) rfl (by kernel_rfl) (by kernel_rfl) (by kernel_rfl) (fun _ _ _ h => h) (Or.inl ⟨by rfl, ?_⟩) (by assumption) ?_
  rotate_left
  · intro w hSw; (try dsimp only at hSw); go_simp; (try with_reducible rfl)
  try simp only [Act.put, List.setIfInBounds_toArray, List.set_cons_zero, List.set_cons_succ]
  refine wpAnyH_take (i := 3) (oi := ⟨some 21, _, _, _, _, _⟩) (v := ?_) rfl (by kernel_rfl) (by kernel_rfl) (by kernel_rfl) (fun _ _ _ h => h) (Or.inl ⟨by rfl, ?_⟩) (by assumption) ?_
  rotate_left
  · intro w hSw; (try dsimp only at hSw); go_simp; (try with_reducible rfl)
  try simp only [Act.put, List.setIfInBounds_toArray, List.set_cons_zero, List.set_cons_succ]
  refine wpAnyH_take (i := 5) (oi := ⟨some 23, _, _, _, _, _⟩) (v := (alV a)) rfl (by kernel_rfl) (by kernel_rfl) (by kernel_rfl) (fun _ _ _ h => h) (yieldsIf_load_at (by rfl) 104 _ rfl ⟨w.heap.size, 0, none⟩ rfl (alL a) _ (fun Y h => Bxo.at ((h.block _ HX2.out.lt hFx).trans HX2.out)) Try.underlying104 rfl info_alg) (by assumption) ?_
  try simp only [Act.put, List.setIfInBounds_toArray, List.set_cons_zero, List.set_cons_succ]
  refine wpAnyH_ready (rs := [4, 6]) (by kernel_rfl) (by simp) (AllReadyH.cons (o := ⟨some 22, _, _, _, _, _⟩) rfl (fun Kc hKc => ?_) (AllReadyH.cons (o := ⟨some 24, _, _, _, _, _⟩) rfl (fun Kc hKc => ?_) AllReadyH.nil))
  ·
    rw [if_pos (by rfl)]
    have cx := HBg.out.cell 0 rfl; go_simp; clear cx
    refine hKc.out _ _ (hHeld) (fun hHeld => ?_)
    clear hKc Kc
    try simp only [Act.put, List.setIfInBounds_toArray, List.set_cons_zero, List.set_cons_succ]
    refine wpAnyH_ready (rs := [6]) (by kernel_rfl) (by simp) (AllReadyH.cons (o := ⟨some 24, _, _, _, _, _⟩) rfl (fun Kc hKc => ?_) AllReadyH.nil)
    go_simp
    have y6 : Below w2.heap.size w2 (w2.alloc (.cells #[.int .i64 a.num, .int .i64 a.at_] 104)).drew := below_drew ((Below.refl _ _).alloc (Nat.le_refl _) _); have HBg := Go.Lib.hid (HG2.out.keep y6 HG2.out.lt); have HR6 := Go.Lib.hid (own_keepA (w' := (w2.alloc (.cells #[.int .i64 a.num, .int .i64 a.at_] 104)).drew) HR2.out (fun b hb => y6.block b (own_ltI HR2.out b hb))); have HP6 := Go.Lib.hid (HP2.out.keep (y6.block mb HP2.out.lt)); have V6 := Go.Lib.hid (show Bxo (w2.alloc (.cells #[.int .i64 a.num, .int .i64 a.at_] 104)).drew w2.heap.size 104 (alL a) from Bxo.made w2 104 (alL a)); generalize (w2.alloc (.cells #[.int .i64 a.num, .int .i64 a.at_] 104)).drew = w6 at *
    refine hKc.out _ _ (moves_below y6) (fun hHeld => ?_)
    clear hKc Kc
    try simp only [Act.put, List.setIfInBounds_toArray, List.set_cons_zero, List.set_cons_succ]
    refine wpAnyH_ready (rs := [7]) (by kernel_rfl) (by simp) (AllReadyH.cons (o := ⟨some 25, _, _, _, _, _⟩) rfl (fun Kc hKc => ?_) AllReadyH.nil)
    rw [if_pos (by rfl)]
    refine step_appendI _ _ 91 rfl 0 104 i0_ _ 2 16 Try.underlying91 hi_ hz0 hz1 hz2 rfl (by omega) (.slice A n c) n (l.flatMap Al.L) rfl HR6.out ⟨w2.heap.size, 0, none⟩ 1 1 (alL a) rfl rfl V6.out.at (by simp [Value.oneCell']) (by unfold maxLen; omega) (by omega) (Nat.zero_le _) ?_; intro v7 w7 ho7 hg7 hat7; obtain ⟨A7, c7, rfl⟩ := own_slice ho7; rw [ownBlock_blk] at hg7; rw [ownBlock_blk, ownBlock_blk] at hat7; have z6 := y6.size; have HB7 := Go.Lib.hid ((hg7.block g HBg.out.lt (fun e => HA.out.1 e.symm)).trans HBg.out); have HP7 := Go.Lib.hid (HP6.out.keep (hg7.block mb HP6.out.lt (fun e => HA.out.2.1 e.symm))); have HO7 := Go.Lib.hid ho7; have HAT := Go.Lib.hid hat7; have M7 := Go.Lib.hid ((moves_below (F := F) y6).trans ⟨hg7.os, hg7.tape, hg7.output, hg7.size, fun k hk hn => hg7.block k hk (fun e => hn (HA.out.2.2 k e.symm))⟩); clear ho7 hg7 hat7
    refine hKc.out _ _ (M7.out) (fun hHeld => ?_)
    clear hKc Kc
    try simp only [Act.put, List.setIfInBounds_toArray, List.set_cons_zero, List.set_cons_succ]
    refine wpAnyH_take (i := 8) (oi := ⟨some 26, _, _, _, _, _⟩) (v := ?_) rfl (by kernel_rfl) (by kernel_rfl) (by kernel_rfl) (fun _ _ _ h => h) (Or.inl ⟨by rfl, ?_⟩) (by assumption) ?_
    rotate_left
    · intro w hSw; (try dsimp only at hSw); go_simp; (try with_reducible rfl)
    try simp only [Act.put, List.setIfInBounds_toArray, List.set_cons_zero, List.set_cons_succ]
    refine wpAnyH_take (i := 9) (oi := ⟨some 27, _, _, _, _, _⟩) (v := ?_) rfl (by kernel_rfl) (by kernel_rfl) (by kernel_rfl) (fun _ _ _ h => h) (Or.inl ⟨by rfl, ?_⟩) (by assumption) ?_
    rotate_left
    · intro w hSw; (try dsimp only at hSw); go_simp; (try with_reducible rfl)
    try simp only [Act.put, List.setIfInBounds_toArray, List.set_cons_zero, List.set_cons_succ]
    refine wpAnyH_ready (rs := [10]) (by kernel_rfl) (by simp) (AllReadyH.cons (o := ⟨none, _, _, _, _, _⟩) rfl (fun Kc hKc => ?_) AllReadyH.nil)
    rw [if_pos (by rfl)]
    refine step_store_any 91 _ _ rfl g 0 96 _ [.slice A7 (n + 1) c7] _ rfl rfl rfl HB7.out info_slg (by show 0 + 1 ≤ 3; omega) (by simp [Value.oneCell']) ?_; intro w8 hb8 ho8; have HG8 : Hid (Bxo w8 g 96 [.slice A7 (n + 1) c7, .map (some mb), .int .i64 now]) := Go.Lib.hid hb8; have HO8 := Go.Lib.hid ho8; clear hb8 ho8
    refine hKc.out _ _ (M7.out.trans (gro_moves HO8.out.gro HF.out.1)) (fun hHeld => ?_)
    clear hKc Kc
    try simp only [Act.put, List.setIfInBounds_toArray, List.set_cons_zero, List.set_cons_succ]
    refine wpAnyH_done (by kernel_rfl) ?_ _
    have yq := hHeld
    clear hHeld
    have hw6 := V6.out.lt
    have hap : blk A7 ≠ some g ∧ blk A7 ≠ some mb := by
      rcases HAT.out with e | e
      · rw [e]; exact ⟨HA.out.1, HA.out.2.1⟩
      · rw [e]
        have h1 := HBg.out.lt
        have h2 := HP6.out.lt
        exact ⟨fun q => by injection q; omega, fun q => by injection q; omega⟩
    have HR8 := Go.Lib.hid (own_keepA (w' := w8) HO7.out (fun b hb => HO8.out.block b (fun e => hap.1 (by rw [hb, e]))))
    have HP8 := Go.Lib.hid (HP7.out.keep (HO8.out.block mb (Ne.symm hgm)))
    go_wp2
    go_end0
    refine ⟨rfl, fun b => b = g ∨ b = mb ∨ blk A7 = some b, ⟨A7, c7, mb, GR.mk' HNL.out HG8.out ?_ ?_ ⟨fun b => Iff.rfl, hgm, hap.1, hap.2, HGR.out.1, HGR.out.2.1, HGR.out.2.2⟩⟩, ?_, ?_⟩
    · have := HR8.out
      rw [List.flatMap_append]
      simpa [Al.L] using this
    · rw [HMP.out]
      exact HP8.out
    · rintro b (rfl | rfl | e)
      · exact .inl HF.out.1
      · exact .inl HF.out.2
      · rcases HAT.out with e' | e'
        · exact .inl (HA.out.2.2 b (by rw [← e', e]))
        · rw [e'] at e
          injection e with e
          exact .inr (by omega)
    · exact (moves_below y1).trans ((gro_moves yp HF.out.2).trans yq)
  ·
    go_simp
    have y6 : Below w2.heap.size w2 (w2.alloc (.cells #[.int .i64 a.num, .int .i64 a.at_] 104)).drew := below_drew ((Below.refl _ _).alloc (Nat.le_refl _) _); have HBg := Go.Lib.hid (HG2.out.keep y6 HG2.out.lt); have HR6 := Go.Lib.hid (own_keepA (w' := (w2.alloc (.cells #[.int .i64 a.num, .int .i64 a.at_] 104)).drew) HR2.out (fun b hb => y6.block b (own_ltI HR2.out b hb))); have HP6 := Go.Lib.hid (HP2.out.keep (y6.block mb HP2.out.lt)); have V6 := Go.Lib.hid (show Bxo (w2.alloc (.cells #[.int .i64 a.num, .int .i64 a.at_] 104)).drew w2.heap.size 104 (alL a) from Bxo.made w2 104 (alL a)); generalize (w2.alloc (.cells #[.int .i64 a.num, .int .i64 a.at_] 104)).drew = w6 at *
    refine hKc.out _ _ (moves_below y6) (fun hHeld => ?_)
    clear hKc Kc
    try simp only [Act.put, List.setIfInBounds_toArray, List.set_cons_zero, List.set_cons_succ]
    refine wpAnyH_ready (rs := [4]) (by kernel_rfl) (by simp) (AllReadyH.cons (o := ⟨some 22, _, _, _, _, _⟩) rfl (fun Kc hKc => ?_) AllReadyH.nil)
    rw [if_pos (by rfl)]
    have cx := HBg.out.cell 0 rfl; go_simp; clear cx
    refine hKc.out _ _ (hHeld) (fun hHeld => ?_)
    clear hKc Kc
    try simp only [Act.put, List.setIfInBounds_toArray, List.set_cons_zero, List.set_cons_succ]
    refine wpAnyH_ready (rs := [7]) (by kernel_rfl) (by simp) (AllReadyH.cons (o := ⟨some 25, _, _, _, _, _⟩) rfl (fun Kc hKc => ?_) AllReadyH.nil)
    rw [if_pos (by rfl)]
    refine step_appendI _ _ 91 rfl 0 104 i0_ _ 2 16 Try.underlying91 hi_ hz0 hz1 hz2 rfl (by omega) (.slice A n c) n (l.flatMap Al.L) rfl HR6.out ⟨w2.heap.size, 0, none⟩ 1 1 (alL a) rfl rfl V6.out.at (by simp [Value.oneCell']) (by unfold maxLen; omega) (by omega) (Nat.zero_le _) ?_; intro v7 w7 ho7 hg7 hat7; obtain ⟨A7, c7, rfl⟩ := own_slice ho7; rw [ownBlock_blk] at hg7; rw [ownBlock_blk, ownBlock_blk] at hat7; have z6 := y6.size; have HB7 := Go.Lib.hid ((hg7.block g HBg.out.lt (fun e => HA.out.1 e.symm)).trans HBg.out); have HP7 := Go.Lib.hid (HP6.out.keep (hg7.block mb HP6.out.lt (fun e => HA.out.2.1 e.symm))); have HO7 := Go.Lib.hid ho7; have HAT := Go.Lib.hid hat7; have M7 := Go.Lib.hid ((moves_below (F := F) y6).trans ⟨hg7.os, hg7.tape, hg7.output, hg7.size, fun k hk hn => hg7.block k hk (fun e => hn (HA.out.2.2 k e.symm))⟩); clear ho7 hg7 hat7
    refine hKc.out _ _ (M7.out) (fun hHeld => ?_)
    clear hKc Kc
    try simp only [Act.put, List.setIfInBounds_toArray, List.set_cons_zero, List.set_cons_succ]
    refine wpAnyH_take (i := 8) (oi := ⟨some 26, _, _, _, _, _⟩) (v := ?_) rfl (by kernel_rfl) (by kernel_rfl) (by kernel_rfl) (fun _ _ _ h => h) (Or.inl ⟨by rfl, ?_⟩) (by assumption) ?_
    rotate_left
    · intro w hSw; (try dsimp only at hSw); go_simp; (try with_reducible rfl)
    try simp only [Act.put, List.setIfInBounds_toArray, List.set_cons_zero, List.set_cons_succ]
    refine wpAnyH_take (i := 9) (oi := ⟨some 27, _, _, _, _, _⟩) (v := ?_) rfl (by kernel_rfl) (by kernel_rfl) (by kernel_rfl) (fun _ _ _ h => h) (Or.inl ⟨by rfl, ?_⟩) (by assumption) ?_
    rotate_left
    · intro w hSw; (try dsimp only at hSw); go_simp; (try with_reducible rfl)
    try simp only [Act.put, List.setIfInBounds_toArray, List.set_cons_zero, List.set_cons_succ]
    refine wpAnyH_ready (rs := [10]) (by kernel_rfl) (by simp) (AllReadyH.cons (o := ⟨none, _, _, _, _, _⟩) rfl (fun Kc hKc => ?_) AllReadyH.nil)
    rw [if_pos (by rfl)]
    refine step_store_any 91 _ _ rfl g 0 96 _ [.slice A7 (n + 1) c7] _ rfl rfl rfl HB7.out info_slg (by show 0 + 1 ≤ 3; omega) (by simp [Value.oneCell']) ?_; intro w8 hb8 ho8; have HG8 : Hid (Bxo w8 g 96 [.slice A7 (n + 1) c7, .map (some mb), .int .i64 now]) := Go.Lib.hid hb8; have HO8 := Go.Lib.hid ho8; clear hb8 ho8
    refine hKc.out _ _ (M7.out.trans (gro_moves HO8.out.gro HF.out.1)) (fun hHeld => ?_)
    clear hKc Kc
    try simp only [Act.put, List.setIfInBounds_toArray, List.set_cons_zero, List.set_cons_succ]
    refine wpAnyH_done (by kernel_rfl) ?_ _
    have yq := hHeld
    clear hHeld
    have hw6 := V6.out.lt
    have hap : blk A7 ≠ some g ∧ blk A7 ≠ some mb := by
      rcases HAT.out with e | e
      · rw [e]; exact ⟨HA.out.1, HA.out.2.1⟩
      · rw [e]
        have h1 := HBg.out.lt
        have h2 := HP6.out.lt
        exact ⟨fun q => by injection q; omega, fun q => by injection q; omega⟩
    have HR8 := Go.Lib.hid (own_keepA (w' := w8) HO7.out (fun b hb => HO8.out.block b (fun e => hap.1 (by rw [hb, e]))))
    have HP8 := Go.Lib.hid (HP7.out.keep (HO8.out.block mb (Ne.symm hgm)))
    go_wp2
    go_end0
    refine ⟨rfl, fun b => b = g ∨ b = mb ∨ blk A7 = some b, ⟨A7, c7, mb, GR.mk' HNL.out HG8.out ?_ ?_ ⟨fun b => Iff.rfl, hgm, hap.1, hap.2, HGR.out.1, HGR.out.2.1, HGR.out.2.2⟩⟩, ?_, ?_⟩
    · have := HR8.out
      rw [List.flatMap_append]
      simpa [Al.L] using this
    · rw [HMP.out]
      exact HP8.out
    · rintro b (rfl | rfl | e)
      · exact .inl HF.out.1
      · exact .inl HF.out.2
      · rcases HAT.out with e' | e'
        · exact .inl (HA.out.2.2 b (by rw [← e', e]))
        · rw [e'] at e
          injection e with e
          exact .inr (by omega)
    · exact (moves_below y1).trans ((gro_moves yp HF.out.2).trans yq)
end Go.Proofs.Ytofpalmghdapkaa
