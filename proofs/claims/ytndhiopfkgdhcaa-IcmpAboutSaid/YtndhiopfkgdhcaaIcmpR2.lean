/- The contract of the document's own Parse of messages. -/
import Derived.Deep.DeepCutAuto
import Derived.Deep.CutBlock
import Derived.Deep.RegionHeld3
import Derived.Test.YtndhiopfkgdhcaaIcmpR
namespace Go.Proofs.Ytndhiopfkgdhcaa
open Go.ChangeShapes Go.WideShapes Go.ChangeAt Go.RowKit
set_option linter.unusedVariables false

/-- the words of bytes that lie in a row. -/
theorem words_at {w' : World} {base : Nat} {v : Value} {q : List UInt8} (k : Nat) (hk : 2 * k ≤ q.length) (h0 : 0 < k) (h : w'.ownsRow base 55 1 v (wrds q).length ((wrds q).map (Value.int .u16))) :
    ∃ g c, v = .slice (some ⟨g, 0, none⟩) ((q.length + 1) / 2) c ∧ base ≤ g ∧ g < w'.heap.size ∧ ∀ j, j < k → w'.cell? ⟨g, j, none⟩ = some (.int .u16 (wd q (2 * j))) := by
  have hn := wrds_length q
  rw [hn] at h
  obtain ⟨g, c, rfl, h1, h2, _, _⟩ := own_form h (by omega)
  refine ⟨g, c, rfl, h1, h2, fun j hj => ?_⟩
  rw [own_cell h j (by simp [hn]; omega)]
  have := wrds_at j q (by omega)
  rw [List.getElem_map]
  congr 2
  rw [List.getElem?_eq_getElem (by omega)] at this
  exact Option.some.inj this
theorem g8_drop (l : List UInt8) (a k : Nat) : g8 (l.drop a) k = g8 l (a + k) := by
  unfold g8
  simp [List.getD, List.getElem?_drop]
theorem wd_drop (l : List UInt8) (a k : Nat) : wd (l.drop a) k = wd l (a + k) := by
  unfold wd
  rw [g8_drop, g8_drop]; rfl

set_option maxRecDepth 100000 in
set_option maxHeartbeats 8000000 in
theorem rparseI (A : Option Addr) (n c : Nat) (l : List UInt8) (w : World) (hn : l.length = n) (h : Bs w w.heap.size A l) (hn2 : n ≤ 16777216) (hnc : n ≤ c) (hc2 : c ≤ 9223372036854775807) :
    Calls Try.prog 20 #[.slice A n c] w (ParsedI w (prsI l)) := by
  obtain ⟨⟨z0, z1, z2, z3⟩, zf⟩ := zi_of (show Below (w.heap.size + 1) (Zi w) (Zi w) from Below.refl _ _)
  have b0 := Zi.below (show Below (w.heap.size + 1) (Zi w) (Zi w) from Below.refl _ _)
  by_cases h2 : n < 8
  · have HP : Hid (prsI l = (2, Ic.empty)) := Go.Lib.hid (by unfold prsI; rw [if_pos (by omega)])
    clear h hn
    go_enter Try.func20, Try.ntmps20
    go_upto_region 1 with fail
    rw [zi_is]
    generalize Zi w = W at *
    go_wp2
    refine bodyPost_ret (v := .tuple #[.agg #[.int .i64 0, .int .i64 0, .int .u32 0, .slice none 0 0], .int .i64 2]) ?_ rfl (parsedI_err HP.out rfl ?_)
    · simp [results, Try.results20, go_sem, z0, z1, z2, z3]
    · exact below_s4 b0 (Nat.le_refl _) _ _ _ _
  by_cases h3 : (65535 : Int) < (n : Int)
  · have HP : Hid (prsI l = (4, Ic.empty)) := Go.Lib.hid (by unfold prsI; rw [if_neg (by omega), if_pos (by omega)])
    clear h hn
    go_enter Try.func20, Try.ntmps20
    go_upto_region 1 with fail
    rw [zi_is]
    generalize Zi w = W at *
    go_wp2
    refine bodyPost_ret (v := .tuple #[.agg #[.int .i64 0, .int .i64 0, .int .u32 0, .slice none 0 0], .int .i64 4]) ?_ rfl (parsedI_err HP.out rfl ?_)
    · simp [results, Try.results20, go_sem, z0, z1, z2, z3]
    · exact below_s4 b0 (Nat.le_refl _) _ _ _ _
  obtain ⟨ad, rfl, hlt, hcell⟩ := g8_cells h (by omega)
  have C0 := hcell 0 (by omega)
  have C1 := hcell 1 (by omega)
  rw [add_zero] at C0
  rw [add_pos ad 1 (by omega)] at C1
  have x00 := g8_lo l 0
  have x01 := g8_hi l 0
  have x10 := g8_lo l 1
  have x11 := g8_hi l 1
  have y40 := wd_lo l 4
  have y41 := wd_hi l 4
  have y60 := wd_lo l 6
  have y61 := wd_hi l 6
  have HN := Go.Lib.hid hn
  have HB := Go.Lib.hid h
  have h8 : 8 ≤ n := by omega
  have n65 : n ≤ 65535 := by omega
  have HP : Hid (prsI l = if fo (tot l) ≠ 65535 then (5, Ic.empty) else (0, ⟨g8 l 0, g8 l 1, wd l 4 * 65536 + wd l 6, l.drop 8⟩)) := Go.Lib.hid (by unfold prsI; rw [if_neg (by omega), if_neg (by omega)]; rfl)
  have HDL : Hid ((l.drop 8).length = n - 8) := Go.Lib.hid (by rw [List.length_drop, hn])
  have HQL : Hid (((l.drop 4).take 4).length = 4) := Go.Lib.hid (by rw [List.length_take, List.length_drop]; omega)
  have Q4 : Hid (wd ((l.drop 4).take 4) 0 = wd l 4) := Go.Lib.hid (by show _ = _; rw [wd_take _ 4 0 (by omega) (by rw [List.length_drop]; omega), wd_drop])
  have Q6 : Hid (wd ((l.drop 4).take 4) 2 = wd l 6) := Go.Lib.hid (by show _ = _; rw [wd_take _ 4 2 (by omega) (by rw [List.length_drop]; omega), wd_drop])
  have HC4 : Hid (Bs w w.heap.size (some { block := ad.block, off := ad.off + 4 }) ((l.drop 4).take 4)) := Go.Lib.hid (by
    have := (h.cut 4 c (by omega) (by omega)).take 4
    rw [if_neg (by omega)] at this; simpa using this)
  have HC : Hid (Bs w w.heap.size (if c = 8 then (some ad : Option Addr) else some { block := ad.block, off := ad.off + 8 }) (l.drop 8)) := Go.Lib.hid (by
    have := h.cut 8 c (by omega) (by omega)
    simpa using this)
  have HCN : Hid ((if c = 8 then (some ad : Option Addr) else some { block := ad.block, off := ad.off + 8 }) = none → c - 8 = 0) := Go.Lib.hid (by split <;> (intro h; cases h))
  have i00 : 0 < n := by omega
  have i01 : (1 : Int) < (n : Int) := by omega
  have i8 : (8 : Int) ≤ (c : Int) := by omega
  have i9 : (8 : Int) ≤ (n : Int) := by omega
  generalize g8 l 0 = x0 at *
  generalize g8 l 1 = x1 at *
  generalize wd l 4 = y4 at *
  generalize wd l 6 = y6 at *
  clear h hn hcell
  go_enter Try.func20, Try.ntmps20
  go_upto_region 1 with fail
  have x1z : Below (w.heap.size + 1) (Zi w) (Zi w) := Below.refl _ _
  have sz := Zi.size x1z
  rw [zi_is]
  generalize hW : Zi w = W at *
  go_wp2_with fail
  refine (rsum_n (some ad) n c l w.heap.size _ HN.out (HB.out.below b0) b0.size hn2 hnc).mono ?_
  rintro e w0 ⟨rfl, hb0⟩
  dsimp only
  have x1z := x1z.trans (hb0.mono sz)
  obtain ⟨⟨z0, z1, z2, z3⟩, zf⟩ := zi_of (w := w) (by rw [hW]; exact x1z)
  have b0 := b0.trans (hb0.mono b0.size)
  have s0 : w.heap.size + 1 ≤ w0.heap.size := Nat.le_trans sz x1z.size
  clear hb0
  by_cases hS : fo (tot l) = 65535
  · have HP0 : Hid (prsI l = (0, ⟨x0, x1, y4 * 65536 + y6, l.drop 8⟩)) := Go.Lib.hid (by rw [HP.out, if_neg (by simpa using hS)])
    rw [hS]
    clear hS HP z0 z1 z2 z3 zf
    go_wp2_with fail
    refine (rwords_n (some { block := ad.block, off := ad.off + 4 }) 4 (c - 4) ((l.drop 4).take 4) w.heap.size _ HQL.out (HC4.out.below b0) b0.size (by omega) (by omega)).mono ?_
    rintro e w1 ⟨v, rfl, hown, hb1⟩
    dsimp only
    obtain ⟨g, kc, rfl, hg1, hg2, hw⟩ := words_at 2 (by rw [HQL.out]; omega) (by omega) hown
    have q4 := hw 0 (by omega)
    have q6 := hw 1 (by omega)
    rw [HQL.out]
    simp only [Nat.reduceMul, Nat.mul_zero, Nat.reduceAdd, Nat.reduceDiv, Q4.out, Q6.out] at q4 q6 ⊢
    have b1 := b0.trans (hb1.mono b0.size)
    have x1z : Below (w.heap.size + 1) (Zi w) w1 := by rw [hW]; exact x1z.trans (hb1.mono s0)
    have s1 : w.heap.size + 1 ≤ w1.heap.size := Nat.le_trans s0 hb1.size
    have C0' := (b1.cell (p := ad) hlt).trans C0
    have C1' := (b1.cell (p := ⟨ad.block, ad.off + 1, none⟩) hlt).trans C1
    have hgw : w.heap.size < g := by omega
    clear hown hw hb1 Q4 Q6 HQL HC4
    have e0 := IntWalk.i64_in x0 (by omega)
    have e1 := IntWalk.i64_in x1 (by omega)
    have e4 := IntWalk.u32_in y4 (by omega)
    have e6 := IntWalk.u32_in y6 (by omega)
    have e5 := IntWalk.u32_in (y4 * 65536) (by omega)
    have e7 := IntWalk.u32_in (y4 * 65536 + y6) (by omega)
    have j1 : n - 8 ≤ 1073741824 := by omega
    have l0 : ([] : List UInt8).length ≤ 1073741824 := by simp
    have K : ∀ Y, Below w1.heap.size w1 Y → Y.cell? ad = some (.int .u8 x0) ∧ Y.cell? ⟨ad.block, ad.off + 1, none⟩ = some (.int .u8 x1) ∧ Y.cell? ⟨g, 0, none⟩ = some (.int .u16 y4) ∧ Y.cell? ⟨g, 1, none⟩ = some (.int .u16 y6) ∧ Below w.heap.size w Y := fun Y y => ⟨(y.cell (p := ad) (Nat.lt_of_lt_of_le hlt b1.size)).trans C0', (y.cell (p := ⟨ad.block, ad.off + 1, none⟩) (Nat.lt_of_lt_of_le hlt b1.size)).trans C1', (y.cell (p := ⟨g, 0, none⟩) hg2).trans q4, (y.cell (p := ⟨g, 1, none⟩) hg2).trans q6, b1.trans (y.mono b1.size)⟩
    have K2 : ∀ (Y : World) (a b c d : Value), (Y.cell? ad = some (.int .u8 x0) ∧ Y.cell? ⟨ad.block, ad.off + 1, none⟩ = some (.int .u8 x1) ∧ Y.cell? ⟨g, 0, none⟩ = some (.int .u16 y4) ∧ Y.cell? ⟨g, 1, none⟩ = some (.int .u16 y6) ∧ Below w.heap.size w Y) → (set4 Y w.heap.size a b c d).cell? ad = some (.int .u8 x0) ∧ (set4 Y w.heap.size a b c d).cell? ⟨ad.block, ad.off + 1, none⟩ = some (.int .u8 x1) ∧ (set4 Y w.heap.size a b c d).cell? ⟨g, 0, none⟩ = some (.int .u16 y4) ∧ (set4 Y w.heap.size a b c d).cell? ⟨g, 1, none⟩ = some (.int .u16 y6) ∧ Below w.heap.size w (set4 Y w.heap.size a b c d) := fun Y a b c d ⟨k0, k1, k2, k3, k4⟩ => by
      have hh : ∀ (Z : World) (p : Addr) (k : Nat) (u : Value), p.block ≠ w.heap.size → (Z.setCell ⟨w.heap.size, k, none⟩ u).cell? p = Z.cell? p := fun Z p k u hp => World.cell?_setCell_other Z _ _ u (fun e => hp (by first | (rw [e]; done) | rw [← e]))
      have n1 : ad.block ≠ w.heap.size := Nat.ne_of_lt hlt
      have n2 : g ≠ w.heap.size := by omega
      refine ⟨?_, ?_, ?_, ?_, below_s4 k4 (Nat.le_refl _) _ _ _ _⟩
      · rw [hh _ _ _ _ n1, hh _ _ _ _ n1, hh _ _ _ _ n1, hh _ _ _ _ n1]; exact k0
      · rw [hh _ ⟨ad.block, ad.off + 1, none⟩ _ _ n1, hh _ ⟨ad.block, ad.off + 1, none⟩ _ _ n1, hh _ ⟨ad.block, ad.off + 1, none⟩ _ _ n1, hh _ ⟨ad.block, ad.off + 1, none⟩ _ _ n1]; exact k1
      · rw [hh _ ⟨g, 0, none⟩ _ _ n2, hh _ ⟨g, 0, none⟩ _ _ n2, hh _ ⟨g, 0, none⟩ _ _ n2, hh _ ⟨g, 0, none⟩ _ _ n2]; exact k2
      · rw [hh _ ⟨g, 1, none⟩ _ _ n2, hh _ ⟨g, 1, none⟩ _ _ n2, hh _ ⟨g, 1, none⟩ _ _ n2, hh _ ⟨g, 1, none⟩ _ _ n2]; exact k3
    clear C0 C1 hW
    go_upto_region 8 with fail
    try simp only [List.append_eq, List.cons_append, List.nil_append]
    refine wp_region_held_drew (S := (fun Y => Y.cell? ad = some (.int .u8 x0) ∧ Y.cell? ⟨ad.block, ad.off + 1, none⟩ = some (.int .u8 x1) ∧ Y.cell? ⟨g, 0, none⟩ = some (.int .u16 y4) ∧ Y.cell? ⟨g, 1, none⟩ = some (.int .u16 y6) ∧ Below w.heap.size w Y)) (by kernel_rfl) ?_ (fun hHeld => ?_)
    · exact K _ (below_drew (Below.refl _ _))
    refine wpAnyH_take (i := 0) (oi := ⟨some 20, _, _, _, _, _⟩) (v := ?_) rfl (by kernel_rfl) (by kernel_rfl) (by kernel_rfl) (fun _ _ _ h => h) (Or.inl ⟨by rfl, ?_⟩) (by assumption) ?_
    rotate_left
    · intro w hSw; (try dsimp only at hSw); go_simp; (try with_reducible rfl)
    try simp only [Act.put, List.setIfInBounds_toArray, List.set_cons_zero, List.set_cons_succ]
    refine wpAnyH_take (i := 1) (oi := ⟨some 21, _, _, _, _, _⟩) (v := ?_) rfl (by kernel_rfl) (by kernel_rfl) (by kernel_rfl) (fun _ _ _ h => h) (Or.inl ⟨by rfl, ?_⟩) (by assumption) ?_
    rotate_left
    · intro w hSw; (try dsimp only at hSw); go_simp; (try with_reducible rfl)
    try simp only [Act.put, List.setIfInBounds_toArray, List.set_cons_zero, List.set_cons_succ]
    refine wpAnyH_take (i := 2) (oi := ⟨some 22, _, _, _, _, _⟩) (v := ?_) rfl (by kernel_rfl) (by kernel_rfl) (by kernel_rfl) (fun _ _ _ h => h) (Or.inl ⟨by rfl, ?_⟩) (by assumption) ?_
    rotate_left
    · intro w hSw; (try dsimp only at hSw); go_simp; (try with_reducible rfl)
    try simp only [Act.put, List.setIfInBounds_toArray, List.set_cons_zero, List.set_cons_succ]
    refine wpAnyH_take (i := 3) (oi := ⟨some 23, _, _, _, _, _⟩) (v := ?_) rfl (by kernel_rfl) (by kernel_rfl) (by kernel_rfl) (fun _ _ _ h => h) (Or.inl ⟨by rfl, ?_⟩) (by assumption) ?_
    rotate_left
    · intro w hSw; (try dsimp only at hSw); go_simp; (try with_reducible rfl)
    try simp only [Act.put, List.setIfInBounds_toArray, List.set_cons_zero, List.set_cons_succ]
    refine wpAnyH_take (i := 4) (oi := ⟨some 24, _, _, _, _, _⟩) (v := ?_) rfl (by kernel_rfl) (by kernel_rfl) (by kernel_rfl) (fun _ _ _ h => h) (Or.inl ⟨by rfl, ?_⟩) (by assumption) ?_
    rotate_left
    · intro w hSw; (try dsimp only at hSw); go_simp; (try with_reducible rfl)
    try simp only [Act.put, List.setIfInBounds_toArray, List.set_cons_zero, List.set_cons_succ]
    refine wpAnyH_take (i := 5) (oi := ⟨some 25, _, _, _, _, _⟩) (v := ?_) rfl (by kernel_rfl) (by kernel_rfl) (by kernel_rfl) (fun _ _ _ h => h) (Or.inl ⟨by rfl, ?_⟩) (by assumption) ?_
    rotate_left
    · intro w hSw; (try dsimp only at hSw); go_simp; (try with_reducible rfl)
    try simp only [Act.put, List.setIfInBounds_toArray, List.set_cons_zero, List.set_cons_succ]
    refine wpAnyH_take (i := 6) (oi := ⟨some 26, _, _, _, _, _⟩) (v := ?_) rfl (by kernel_rfl) (by kernel_rfl) (by kernel_rfl) (fun _ _ _ h => h) (Or.inl ⟨by rfl, ?_⟩) (by assumption) ?_
    rotate_left
    · intro w hSw; (try dsimp only at hSw); go_simp; (try with_reducible rfl)
    try simp only [Act.put, List.setIfInBounds_toArray, List.set_cons_zero, List.set_cons_succ]
    refine wpAnyH_take (i := 7) (oi := ⟨some 27, _, _, _, _, _⟩) (v := ?_) rfl (by kernel_rfl) (by kernel_rfl) (by kernel_rfl) (fun _ _ _ h => h) (Or.inl ⟨by rfl, ?_⟩) (by assumption) ?_
    rotate_left
    · intro w hSw; (try dsimp only at hSw); go_simp; (try with_reducible rfl)
    try simp only [Act.put, List.setIfInBounds_toArray, List.set_cons_zero, List.set_cons_succ]
    refine wpAnyH_take (i := 8) (oi := ⟨some 28, _, _, _, _, _⟩) (v := ?_) rfl (by kernel_rfl) (by kernel_rfl) (by kernel_rfl) (fun _ _ _ h => h) (Or.inl ⟨by rfl, ?_⟩) (by assumption) ?_
    rotate_left
    · intro w hSw; (try dsimp only at hSw); go_simp; (try with_reducible rfl)
    try simp only [Act.put, List.setIfInBounds_toArray, List.set_cons_zero, List.set_cons_succ]
    refine wpAnyH_take (i := 9) (oi := ⟨some 29, _, _, _, _, _⟩) (v := ?_) rfl (by kernel_rfl) (by kernel_rfl) (by kernel_rfl) (fun _ _ _ h => h) (Or.inl ⟨by rfl, ?_⟩) (by assumption) ?_
    rotate_left
    · intro w hSw; (try dsimp only at hSw); go_simp; (try with_reducible rfl)
    try simp only [Act.put, List.setIfInBounds_toArray, List.set_cons_zero, List.set_cons_succ]
    refine wpAnyH_take (i := 10) (oi := ⟨some 30, _, _, _, _, _⟩) (v := ?_) rfl (by kernel_rfl) (by kernel_rfl) (by kernel_rfl) (fun _ _ _ h => h) (Or.inl ⟨by rfl, ?_⟩) (by assumption) ?_
    rotate_left
    · intro w hSw; (try dsimp only at hSw); go_simp; (try with_reducible rfl)
    try simp only [Act.put, List.setIfInBounds_toArray, List.set_cons_zero, List.set_cons_succ]
    refine wpAnyH_take (i := 11) (oi := ⟨some 31, _, _, _, _, _⟩) (v := ?_) rfl (by kernel_rfl) (by kernel_rfl) (by kernel_rfl) (fun _ _ _ h => h) (Or.inl ⟨by rfl, ?_⟩) (by assumption) ?_
    rotate_left
    · intro w hSw; (try dsimp only at hSw); go_simp; (try with_reducible rfl)
    try simp only [Act.put, List.setIfInBounds_toArray, List.set_cons_zero, List.set_cons_succ]
    refine wpAnyH_take (i := 12) (oi := ⟨some 32, _, _, _, _, _⟩) (v := ?_) rfl (by kernel_rfl) (by kernel_rfl) (by kernel_rfl) (fun _ _ _ h => h) (Or.inl ⟨by rfl, ?_⟩) (by assumption) ?_
    rotate_left
    · intro w hSw; (try dsimp only at hSw); go_simp; (try with_reducible rfl)
    try simp only [Act.put, List.setIfInBounds_toArray, List.set_cons_zero, List.set_cons_succ]
    refine wpAnyH_take (i := 13) (oi := ⟨some 33, _, _, _, _, _⟩) (v := ?_) rfl (by kernel_rfl) (by kernel_rfl) (by kernel_rfl) (fun _ _ _ h => h) (Or.inl ⟨by rfl, ?_⟩) (by assumption) ?_
    rotate_left
    · intro w hSw; (try dsimp only at hSw); go_simp; (try with_reducible rfl)
    try simp only [Act.put, List.setIfInBounds_toArray, List.set_cons_zero, List.set_cons_succ]
    refine wpAnyH_take (i := 14) (oi := ⟨some 34, _, _, _, _, _⟩) (v := ?_) rfl (by kernel_rfl) (by kernel_rfl) (by kernel_rfl) (fun _ _ _ h => h) (Or.inl ⟨by rfl, ?_⟩) (by assumption) ?_
    rotate_left
    · intro w hSw; (try dsimp only at hSw); go_simp; (try with_reducible rfl)
    try simp only [Act.put, List.setIfInBounds_toArray, List.set_cons_zero, List.set_cons_succ]
    refine wpAnyH_take (i := 15) (oi := ⟨some 35, _, _, _, _, _⟩) (v := ?_) rfl (by kernel_rfl) (by kernel_rfl) (by kernel_rfl) (fun _ _ _ h => h) (Or.inl ⟨by rfl, ?_⟩) (by assumption) ?_
    rotate_left
    · intro w hSw; (try dsimp only at hSw); go_simp; (try with_reducible rfl)
    try simp only [Act.put, List.setIfInBounds_toArray, List.set_cons_zero, List.set_cons_succ]
    refine wpAnyH_take (i := 16) (oi := ⟨some 36, _, _, _, _, _⟩) (v := ?_) rfl (by kernel_rfl) (by kernel_rfl) (by kernel_rfl) (fun _ _ _ h => h) (Or.inl ⟨by rfl, ?_⟩) (by assumption) ?_
    rotate_left
    · intro w hSw; (try dsimp only at hSw); go_simp; (try with_reducible rfl)
    try simp only [Act.put, List.setIfInBounds_toArray, List.set_cons_zero, List.set_cons_succ]
    refine wpAnyH_take (i := 17) (oi := ⟨some 37, _, _, _, _, _⟩) (v := ?_) rfl (by kernel_rfl) (by kernel_rfl) (by kernel_rfl) (fun _ _ _ h => h) (Or.inl ⟨by rfl, ?_⟩) (by assumption) ?_
    rotate_left
    · intro w hSw; (try dsimp only at hSw); go_simp; (try with_reducible rfl)
    try simp only [Act.put, List.setIfInBounds_toArray, List.set_cons_zero, List.set_cons_succ]
    refine wpAnyH_take (i := 19) (oi := ⟨some 39, _, _, _, _, _⟩) (v := ?_) rfl (by kernel_rfl) (by kernel_rfl) (by kernel_rfl) (fun _ _ _ h => h) (Or.inl ⟨by rfl, ?_⟩) (by assumption) ?_
    rotate_left
    · intro w hSw; (try dsimp only at hSw); go_simp; (try with_reducible rfl)
    try simp only [Act.put, List.setIfInBounds_toArray, List.set_cons_zero, List.set_cons_succ]
    refine wpAnyH_take (i := 20) (oi := ⟨some 40, _, _, _, _, _⟩) (v := ?_) rfl (by kernel_rfl) (by kernel_rfl) (by kernel_rfl) (fun _ _ _ h => h) (Or.inl ⟨by rfl, ?_⟩) (by assumption) ?_
    rotate_left
    · intro w hSw; (try dsimp only at hSw); go_simp; (try with_reducible rfl)
    try simp only [Act.put, List.setIfInBounds_toArray, List.set_cons_zero, List.set_cons_succ]
    refine wpAnyH_ready (rs := [18]) (by kernel_rfl) (by simp) (AllReadyH.cons (o := ⟨some 38, _, _, _, _, _⟩) rfl (fun Kc hKc => ?_) AllReadyH.nil)
    go_simp
    have z2 : Below w1.heap.size w1 (w1.drew.alloc (.cells #[] 5)) := (below_drew (Below.refl _ _)).alloc (Nat.le_refl _) _; have HRZ : Hid (Row (w1.drew.alloc (.cells #[] 5)) w1.heap.size (.slice (some ⟨w1.heap.size, 0, none⟩) 0 0) []) := Go.Lib.hid ((own_lit w1.drew w1.heap.size [] (fun x hx => by cases hx) (Nat.le_refl _) (by simp)).row)
    clear hHeld
    refine hKc.out _ _ ?_ (fun hHeld => ?_)
    · (try dsimp only); exact K _ z2
    clear hKc Kc
    try simp only [Act.put, List.setIfInBounds_toArray, List.set_cons_zero, List.set_cons_succ]
    refine wpAnyH_ready (rs := [21]) (by kernel_rfl) (by simp) (AllReadyH.cons (o := ⟨some 41, _, _, _, _, _⟩) rfl (fun Kc hKc => ?_) AllReadyH.nil)
    refine apS rfl _ _ rfl w1.heap.size _ [] rfl HRZ.out w.heap.size _ _ (c - 8) (l.drop 8) rfl HDL.out HCN.out (HC.out.below (b1.trans (z2.mono b1.size))) l0 j1 z2.size ?_; intro v7 w7 hrow7 hb7; have z7 := z2.trans (hb7.mono (Nat.le_refl _)); rw [List.nil_append] at hrow7; obtain ⟨A7, c7, hv7, hl7, hc7, hn7, hs7⟩ := hrow7.form; rw [HDL.out] at hv7; subst hv7; have f7 : ∀ ad, A7 = some ad → w.heap.size < ad.block := fun ad e => (by subst e; have := (hrow7.lt ad.block rfl).1; omega); obtain ⟨⟨y0, y1, y2, y3⟩, zf⟩ := zi_of (x1z.trans (z7.mono s1))
    clear hHeld
    refine hKc.out _ _ ?_ (fun hHeld => ?_)
    · (try dsimp only); exact K _ z7
    clear hKc Kc
    try simp only [Act.put, List.setIfInBounds_toArray, List.set_cons_zero, List.set_cons_succ]
    refine wpAnyH_take (i := 22) (oi := ⟨some 42, _, _, _, _, _⟩) (v := ?_) rfl (by kernel_rfl) (by kernel_rfl) (by kernel_rfl) (fun _ _ _ h => h) (Or.inl ⟨by rfl, ?_⟩) (by assumption) ?_
    rotate_left
    · intro w hSw; (try dsimp only at hSw); go_simp; (try with_reducible rfl)
    try simp only [Act.put, List.setIfInBounds_toArray, List.set_cons_zero, List.set_cons_succ]
    refine wpAnyH_ready (rs := [23]) (by kernel_rfl) (by simp) (AllReadyH.cons (o := ⟨none, _, _, _, _, _⟩) rfl (fun Kc hKc => ?_) AllReadyH.nil)
    go_simp
    clear hHeld
    refine hKc.out _ _ ?_ (fun hHeld => ?_)
    · (try dsimp only); exact K2 _ _ _ _ _ (K _ z7)
    clear hKc Kc
    try simp only [Act.put, List.setIfInBounds_toArray, List.set_cons_zero, List.set_cons_succ]
    refine wpAnyH_take (i := 24) (oi := ⟨some 3, _, _, _, _, _⟩) (v := ?_) rfl (by kernel_rfl) (by kernel_rfl) (by kernel_rfl) (fun _ _ _ h => h) (Or.inl ⟨by rfl, ?_⟩) (by assumption) ?_
    rotate_left
    · intro w hSw; (try dsimp only at hSw); go_simp; (try with_reducible rfl)
    try simp only [Act.put, List.setIfInBounds_toArray, List.set_cons_zero, List.set_cons_succ]
    refine wpAnyH_done (by kernel_rfl) ?_ _
    have HF : Hid (GivesIc w (set4 w7 w.heap.size (.int .i64 x0) (.int .i64 x1) (.int .u32 (y4 * 65536 + y6)) (.slice A7 (n - 8) c7)) ⟨x0, x1, y4 * 65536 + y6, l.drop 8⟩ A7 c7) := Go.Lib.hid (gives_s4 ⟨by show 0 ≤ y4 * 65536 + y6; omega, by show y4 * 65536 + y6 ≤ 4294967295; omega, hl7, hc7, hn7, hs7⟩ f7 (b1.trans (z7.mono b1.size)) _ _ _ _)
    clear K K2 hrow7 hb7 hs7 HRZ z7 f7
    go_wp2
    all_goals
      refine bodyPost_ret (v := .tuple #[.agg #[.int .i64 x0, .int .i64 x1, .int .u32 (y4 * 65536 + y6), .slice A7 (n - 8) c7], .int .i64 0]) ?_ rfl (parsedI_ok HP0.out (by rw [icV, HDL.out]) HF.out)
      simp [results, Try.results20, go_sem, y0, y1, y2, y3]
  · have HP5 : Hid (prsI l = (5, Ic.empty)) := Go.Lib.hid (by rw [HP.out, if_pos hS])
    have t2 : (fo (tot l) != 65535) = true := by simpa using hS
    clear hS HP x1z
    generalize fo (tot l) = s at *
    go_wp2
    refine bodyPost_ret (v := .tuple #[.agg #[.int .i64 0, .int .i64 0, .int .u32 0, .slice none 0 0], .int .i64 5]) ?_ rfl (parsedI_err HP5.out rfl ?_)
    · simp [results, Try.results20, go_sem, z0, z1, z2, z3]
    · exact below_s4 b0 (Nat.le_refl _) _ _ _ _
end Go.Proofs.Ytndhiopfkgdhcaa
