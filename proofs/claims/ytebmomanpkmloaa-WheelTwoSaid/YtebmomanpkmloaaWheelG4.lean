/- A wheel as a heap in a struct, its places in a map: Push. -/
import Derived.Test.YtebmomanpkmloaaWheelG3
namespace Go.Proofs.Ytebmomanpkmloaa
open Go.ChangeShapes Go.WideShapes Go.ChangeAt Go.RowKit
set_option linter.unusedVariables false
set_option linter.unusedSimpArgs false

theorem run_assert_struct {P : Program} {w : World} (t xT : TypeId) (v : Value) (fs : Array Field) (h : P.underlying t = some (.struct fs)) : (Instr.typeAssert (.iface t v) xT t false).run P w = .ok v w := by
  simp [Instr.typeAssert, Sem.run_bind, run_underlying h]
theorem assertA (a : Al) (w : World) : (Instr.typeAssert (.iface 67 (.agg #[.int .i64 a.num, .int .i64 a.at_])) 20 67 false).run Try.prog w = .ok (.agg #[.int .i64 a.num, .int .i64 a.at_]) w := run_assert_struct _ _ _ _ Try.underlying67
set_option maxRecDepth 100000 in
set_option maxHeartbeats 8000000 in
theorem gpush {w : World} {g : Nat} {l : List Al} {now : Int} {F : Nat → Prop} {A : Option Addr} {c mb : Nat} (h : GR w g l now F A c mb) (a : Al) (ha : 0 ≤ a.num ∧ a.num ≤ 2147483647) (hl : l.length < 256) (hne : ∀ b ∈ l, b.num ≠ a.num) :
    Calls Try.prog 49 #[.pointer (some ⟨g, 0, none⟩), .iface 67 (.agg #[.int .i64 a.num, .int .i64 a.at_])] w fun e w' => e = .returned (.tuple #[]) ∧ ∃ F', (∃ A' c' mb', GR w' g (l ++ [a]) now F' A' c' mb') ∧ Newer w F F' ∧ Moves w w' F := by
  have hnc := (own_cap h.row)
  unfold maxLen at hnc
  have hgm := h.g1
  have HF : Hid (F g ∧ F mb) := Go.Lib.hid ⟨(h.blocks g).2 (.inl rfl), (h.blocks mb).2 (.inr (.inl rfl))⟩
  have HA : Hid (blk A ≠ some g ∧ blk A ≠ some mb ∧ ∀ b, blk A = some b → F b) := Go.Lib.hid ⟨h.g2, h.g3, fun b e => (h.blocks b).2 (.inr (.inr e))⟩
  have HGR : Hid (OnceA (l ++ [a]) ∧ (∀ b ∈ l ++ [a], 0 ≤ b.num ∧ b.num ≤ 2147483647) ∧ (l ++ [a]).length ≤ 256) := Go.Lib.hid ⟨h.once.snoc hne, fun b hb => (List.mem_append.1 hb).elim (h.rng b) (fun q => by rw [List.mem_singleton.1 q]; exact ha), by rw [List.length_append]; show l.length + 1 ≤ 256; omega⟩
  have hFx : ¬ F w.heap.size := fun f => by have := h.lt _ f; omega
  have HMP0 : findH (l ++ [a]) = putF (findH l) a.num l.length := funext fun z => by rw [find_snoc h.once hne z]; rfl
  have hno : (findH l a.num).isSome = false := by rw [find_not hne]; rfl
  have hnl : (l ++ [a]).length = l.length + 1 := by rw [List.length_append]; rfl
  have hb0 := h.box
  have hr0 := h.row
  have hp0 := h.map
  obtain ⟨n, hn⟩ : ∃ n, l.length = n := ⟨_, rfl⟩
  rw [hn] at hb0 hr0 hp0 hnc HMP0 hl hnl
  have HNL := Go.Lib.hid hnl
  have HNO : Hid ((if (findH l a.num).isSome then n else n + 1) = n + 1) := Go.Lib.hid (by rw [hno]; rfl)
  have HMP := Go.Lib.hid HMP0
  have HB := Go.Lib.hid hb0
  have HR := Go.Lib.hid hr0
  have HP := Go.Lib.hid hp0
  have KX := Go.Lib.hid (wfI (z := a.num) (by omega) (by omega))
  have y1 : Below w.heap.size w (w.alloc (.cells #[.int .i64 a.num, .int .i64 a.at_] 67)) := (Below.refl _ _).alloc (Nat.le_refl _) _
  have hbx := Bxo.made w 67 (alL a)
  obtain ⟨i0_, hi_, hz0, hz1, hz2⟩ := info_parts info_algz
  clear h HMP0 hno hnl hb0 hr0 hp0 hn hne
  have tA := assertA a
  go_enter Try.func49, Try.ntmps49
  go_upto_region 1 with fail
  have hgl := HB.out.lt
  have hml := HP.out.lt
  have HB1 := Go.Lib.hid (HB.out.keep y1 hgl)
  have HR1 := Go.Lib.hid (own_keepA (w' := w.alloc (.cells #[.int .i64 a.num, .int .i64 a.at_] 67)) HR.out (fun b hb => y1.block b (own_ltI HR.out b hb)))
  have HP1 := Go.Lib.hid (HP.out.keep (y1.block mb hml))
  have hs1 : (w.alloc (.cells #[.int .i64 a.num, .int .i64 a.at_] 67)).heap.size = w.heap.size + 1 := by simp
  generalize w.alloc (.cells #[.int .i64 a.num, .int .i64 a.at_] 67) = w1 at *
  have HX1 := Go.Lib.hid (show Bxo w1 w.heap.size 67 (alL a) from hbx)
  have HM1 : Hid (∀ Y, Gro mb w1 Y → Y.cell? ⟨g, 1, none⟩ = some (.map (some mb))) := Go.Lib.hid (fun Y y => (HB1.out.gro y hgm).cell 1 rfl)
  have HZ1 : Hid (∀ Y, Gro mb w1 Y → Y.cell? ⟨g, 0, none⟩ = some (.slice A n c)) := Go.Lib.hid (fun Y y => (HB1.out.gro y hgm).cell 0 rfl)
  have HN1 : Hid (∀ Y, Gro mb w1 Y → Y.cell? ⟨w.heap.size, 0, none⟩ = some (.int .i64 a.num)) := Go.Lib.hid (fun Y y => (HX1.out.gro y (by omega)).cell 0 rfl)
  clear hbx
  try simp only [Act.put, List.setIfInBounds_toArray, List.set_cons_zero, List.set_cons_succ]
  refine wp_region_held_drew (S := fun Y => Gro mb w1 Y) (by kernel_rfl) ?_ (fun hHeld => ?_)
  · exact (gro_below (below_drew (Below.refl _ _)))
  refine wpAnyH_take (i := 0) (oi := ⟨some 7, _, _, _, _, _⟩) (v := ?_) rfl (by kernel_rfl) (by kernel_rfl) (by kernel_rfl) (fun _ _ _ h => h) (Or.inl ⟨by rfl, ?_⟩) (by assumption) ?_
  rotate_left
  · intro w hSw; (try dsimp only at hSw); go_simp; (try with_reducible rfl)
  try simp only [Act.put, List.setIfInBounds_toArray, List.set_cons_zero, List.set_cons_succ]
  refine wpAnyH_take (i := 1) (oi := ⟨some 8, _, _, _, _, _⟩) (v := ?_) rfl (by kernel_rfl) (by kernel_rfl) (by kernel_rfl) (fun _ _ _ h => h) (Or.inl ⟨by rfl, ?_⟩) (by assumption) ?_
  rotate_left
  · intro w hSw; (try dsimp only at hSw); go_simp; (try with_reducible rfl)
  try simp only [Act.put, List.setIfInBounds_toArray, List.set_cons_zero, List.set_cons_succ]
  refine wpAnyH_take (i := 2) (oi := ⟨some 9, _, _, _, _, _⟩) (v := ?_) rfl (by kernel_rfl) (by kernel_rfl) (by kernel_rfl) (fun _ _ _ h => h) (Or.inl ⟨by rfl, ?_⟩) (by assumption) ?_
  rotate_left
  · intro w hSw; (try dsimp only at hSw); go_simp; (try with_reducible rfl)
  try simp only [Act.put, List.setIfInBounds_toArray, List.set_cons_zero, List.set_cons_succ]
  refine wpAnyH_take (i := 3) (oi := ⟨some 10, _, _, _, _, _⟩) (v := ?_) rfl (by kernel_rfl) (by kernel_rfl) (by kernel_rfl) (fun _ _ _ h => h) (Or.inl ⟨by rfl, ?_⟩) (by assumption) ?_
  rotate_left
  · intro w hSw; have zc := HM1.out _ hSw; (try dsimp only at hSw); go_simp; (try with_reducible rfl)
  try simp only [Act.put, List.setIfInBounds_toArray, List.set_cons_zero, List.set_cons_succ]
  refine wpAnyH_take (i := 4) (oi := ⟨some 11, _, _, _, _, _⟩) (v := ?_) rfl (by kernel_rfl) (by kernel_rfl) (by kernel_rfl) (fun _ _ _ h => h) (Or.inl ⟨by rfl, ?_⟩) (by assumption) ?_
  rotate_left
  · intro w hSw; (try dsimp only at hSw); go_simp; (try with_reducible rfl)
  try simp only [Act.put, List.setIfInBounds_toArray, List.set_cons_zero, List.set_cons_succ]
  refine wpAnyH_take (i := 5) (oi := ⟨some 12, _, _, _, _, _⟩) (v := ?_) rfl (by kernel_rfl) (by kernel_rfl) (by kernel_rfl) (fun _ _ _ h => h) (Or.inl ⟨by rfl, ?_⟩) (by assumption) ?_
  rotate_left
  · intro w hSw; have zc := HN1.out _ hSw; (try dsimp only at hSw); go_simp; (try with_reducible rfl)
  try simp only [Act.put, List.setIfInBounds_toArray, List.set_cons_zero, List.set_cons_succ]
  refine wpAnyH_take (i := 6) (oi := ⟨some 13, _, _, _, _, _⟩) (v := ?_) rfl (by kernel_rfl) (by kernel_rfl) (by kernel_rfl) (fun _ _ _ h => h) (Or.inl ⟨by rfl, ?_⟩) (by assumption) ?_
  rotate_left
  · intro w hSw; (try dsimp only at hSw); go_simp; (try with_reducible rfl)
  try simp only [Act.put, List.setIfInBounds_toArray, List.set_cons_zero, List.set_cons_succ]
  refine wpAnyH_take (i := 7) (oi := ⟨some 14, _, _, _, _, _⟩) (v := ?_) rfl (by kernel_rfl) (by kernel_rfl) (by kernel_rfl) (fun _ _ _ h => h) (Or.inl ⟨by rfl, ?_⟩) (by assumption) ?_
  rotate_left
  · intro w hSw; (try dsimp only at hSw); go_simp; (try with_reducible rfl)
  try simp only [Act.put, List.setIfInBounds_toArray, List.set_cons_zero, List.set_cons_succ]
  refine wpAnyH_take (i := 8) (oi := ⟨some 15, _, _, _, _, _⟩) (v := ?_) rfl (by kernel_rfl) (by kernel_rfl) (by kernel_rfl) (fun _ _ _ h => h) (Or.inl ⟨by rfl, ?_⟩) (by assumption) ?_
  rotate_left
  · intro w hSw; (try dsimp only at hSw); go_simp; (try with_reducible rfl)
  try simp only [Act.put, List.setIfInBounds_toArray, List.set_cons_zero, List.set_cons_succ]
  refine wpAnyH_take (i := 9) (oi := ⟨some 16, _, _, _, _, _⟩) (v := ?_) rfl (by kernel_rfl) (by kernel_rfl) (by kernel_rfl) (fun _ _ _ h => h) (Or.inl ⟨by rfl, ?_⟩) (by assumption) ?_
  rotate_left
  · intro w hSw; have zc := HZ1.out _ hSw; (try dsimp only at hSw); go_simp; (try with_reducible rfl)
  try simp only [Act.put, List.setIfInBounds_toArray, List.set_cons_zero, List.set_cons_succ]
  refine wpAnyH_take (i := 10) (oi := ⟨some 17, _, _, _, _, _⟩) (v := ?_) rfl (by kernel_rfl) (by kernel_rfl) (by kernel_rfl) (fun _ _ _ h => h) (Or.inl ⟨by rfl, ?_⟩) (by assumption) ?_
  rotate_left
  · intro w hSw; (try dsimp only at hSw); go_simp; (try with_reducible rfl)
  try simp only [Act.put, List.setIfInBounds_toArray, List.set_cons_zero, List.set_cons_succ]
  refine wpAnyH_ready (rs := [11]) (by kernel_rfl) (by simp) (AllReadyH.cons (o := ⟨none, _, _, _, _, _⟩) rfl (fun Kc hKc => ?_) AllReadyH.nil)
  rw [if_pos (by rfl)]
  refine step_putP (w := w1.drew) (HP1.out.keep rfl) (by omega) _ _ _ rfl a.num KX.out n (by omega) rfl rfl rfl ?_; intro w2 hp2 ho2; have HP2 := Go.Lib.hid hp2; have HO2 := Go.Lib.hid ho2; clear hp2 ho2
  refine hKc.out _ _ (hHeld.trans HO2.out.gro) (fun hHeld => ?_)
  clear hKc Kc
  try simp only [Act.put, List.setIfInBounds_toArray, List.set_cons_zero, List.set_cons_succ]
  refine wpAnyH_done (by kernel_rfl) ?_ _
  have yp := hHeld
  clear hHeld
  have hs2 := yp.size
  have HP2 : Hid (PmAt w2 mb (putF (findH l) a.num n) (n + 1)) := Go.Lib.hid (by have := HP2.out; rwa [HNO.out] at this)
  have HG2 := Go.Lib.hid (HB1.out.gro yp hgm)
  have HX2 := Go.Lib.hid (HX1.out.gro yp (by omega))
  have HR2 := Go.Lib.hid (own_keepA (w' := w2) HR1.out (fun b hb => yp.block b (own_ltI HR1.out b hb) (fun e => HA.out.2.1 (by rw [hb, e]))))
  have HBg := Go.Lib.hid (HG2.out.drew)
  go_upto_region 2 with fail
  try simp only [Act.put, List.setIfInBounds_toArray, List.set_cons_zero, List.set_cons_succ]
  refine wp_region_held_drew (S := fun Y => Moves w2 Y F) (by kernel_rfl) ?_ (fun hHeld => ?_)
  · exact moves_below (below_drew (Below.refl _ _))
  refine wpAnyH_take (i := 0) (oi := ⟨some 18, _, _, _, _, _⟩) (v := ?_) rfl (by kernel_rfl) (by kernel_rfl) (by kernel_rfl) (fun _ _ _ h => h) (Or.inl ⟨by rfl, ?_⟩) (by assumption) ?_
  rotate_left
  · intro w hSw; (try dsimp only at hSw); go_simp; (try with_reducible rfl)
  try simp only [Act.put, List.setIfInBounds_toArray, List.set_cons_zero, List.set_cons_succ]
  refine wpAnyH_take (i := 1) (oi := ⟨some 19, _, _, _, _, _⟩) (v := ?_) rfl (by kernel_rfl) (by kernel_rfl) (by kernel_rfl) (fun _ _ _ h => h) (Or.inl ⟨by rfl, ?_⟩) (by assumption) ?_
  rotate_left
  · intro w hSw; (try dsimp only at hSw); go_simp; (try with_reducible rfl)
  try simp only [Act.put, List.setIfInBounds_toArray, List.set_cons_zero, List.set_cons_succ]
  refine wpAnyH_take (i := 2) (oi := ⟨some 20, _, _, _, _, _⟩) (v := ?_) rfl (by kernel_rfl) (by kernel_rfl) (by kernel_rfl) (fun _ _ _ h => h) (Or.inl ⟨by rfl, ?_⟩) (by assumption) ?_
  rotate_left
  · intro w hSw; (try dsimp only at hSw); go_simp; (try with_reducible rfl)
  try simp only [Act.put, List.setIfInBounds_toArray, List.set_cons_zero, List.set_cons_succ]
  refine wpAnyH_take (i := 3) (oi := ⟨some 21, _, _, _, _, _⟩) (v := ?_) rfl (by kernel_rfl) (by kernel_rfl) (by kernel_rfl) (fun _ _ _ h => h) (Or.inl ⟨by rfl, ?_⟩) (by assumption) ?_
  rotate_left
  · intro w hSw; (try dsimp only at hSw); go_simp; (try with_reducible rfl)
  try simp only [Act.put, List.setIfInBounds_toArray, List.set_cons_zero, List.set_cons_succ]
  refine wpAnyH_take (i := 5) (oi := ⟨some 23, _, _, _, _, _⟩) (v := (alV a)) rfl (by kernel_rfl) (by kernel_rfl) (by kernel_rfl) (fun _ _ _ h => h) (yieldsIf_load_at (by rfl) 67 _ rfl ⟨w.heap.size, 0, none⟩ rfl (alL a) _ (fun Y h => Bxo.at ((h.block _ HX2.out.lt hFx).trans HX2.out)) Try.underlying67 rfl info_alg) (by assumption) ?_
  try simp only [Act.put, List.setIfInBounds_toArray, List.set_cons_zero, List.set_cons_succ]
  refine wpAnyH_ready (rs := [4, 6]) (by kernel_rfl) (by simp) (AllReadyH.cons (o := ⟨some 22, _, _, _, _, _⟩) rfl (fun Kc hKc => ?_) (AllReadyH.cons (o := ⟨some 24, _, _, _, _, _⟩) rfl (fun Kc hKc => ?_) AllReadyH.nil))
  ·
    rw [if_pos (by rfl)]
    have cx := HBg.out.cell 0 rfl; go_simp; clear cx
    refine hKc.out _ _ (hHeld) (fun hHeld => ?_)
    clear hKc Kc
    try simp only [Act.put, List.setIfInBounds_toArray, List.set_cons_zero, List.set_cons_succ]
    refine wpAnyH_ready (rs := [6]) (by kernel_rfl) (by simp) (AllReadyH.cons (o := ⟨some 24, _, _, _, _, _⟩) rfl (fun Kc hKc => ?_) AllReadyH.nil)
    go_simp
    have y6 : Below w2.heap.size w2 (w2.alloc (.cells #[.int .i64 a.num, .int .i64 a.at_] 67)).drew := below_drew ((Below.refl _ _).alloc (Nat.le_refl _) _); have HBg := Go.Lib.hid (HG2.out.keep y6 HG2.out.lt); have HR6 := Go.Lib.hid (own_keepA (w' := (w2.alloc (.cells #[.int .i64 a.num, .int .i64 a.at_] 67)).drew) HR2.out (fun b hb => y6.block b (own_ltI HR2.out b hb))); have HP6 := Go.Lib.hid (HP2.out.keep (y6.block mb HP2.out.lt)); have V6 := Go.Lib.hid (show Bxo (w2.alloc (.cells #[.int .i64 a.num, .int .i64 a.at_] 67)).drew w2.heap.size 67 (alL a) from Bxo.made w2 67 (alL a)); generalize (w2.alloc (.cells #[.int .i64 a.num, .int .i64 a.at_] 67)).drew = w6 at *
    refine hKc.out _ _ (moves_below y6) (fun hHeld => ?_)
    clear hKc Kc
    try simp only [Act.put, List.setIfInBounds_toArray, List.set_cons_zero, List.set_cons_succ]
    refine wpAnyH_ready (rs := [7]) (by kernel_rfl) (by simp) (AllReadyH.cons (o := ⟨some 25, _, _, _, _, _⟩) rfl (fun Kc hKc => ?_) AllReadyH.nil)
    rw [if_pos (by rfl)]
    refine step_appendI _ _ 54 rfl 0 67 i0_ _ 2 16 Try.underlying54 hi_ hz0 hz1 hz2 rfl (by omega) (.slice A n c) n (l.flatMap Al.L) rfl HR6.out ⟨w2.heap.size, 0, none⟩ 1 1 (alL a) rfl rfl V6.out.at (by simp [Value.oneCell']) (by unfold maxLen; omega) (by omega) (Nat.zero_le _) ?_; intro v7 w7 ho7 hg7 hat7; obtain ⟨A7, c7, rfl⟩ := own_slice ho7; rw [ownBlock_blk] at hg7; rw [ownBlock_blk, ownBlock_blk] at hat7; have z6 := y6.size; have HB7 := Go.Lib.hid ((hg7.block g HBg.out.lt (fun e => HA.out.1 e.symm)).trans HBg.out); have HP7 := Go.Lib.hid (HP6.out.keep (hg7.block mb HP6.out.lt (fun e => HA.out.2.1 e.symm))); have HO7 := Go.Lib.hid ho7; have HAT := Go.Lib.hid hat7; have M7 := Go.Lib.hid ((moves_below (F := F) y6).trans ⟨hg7.os, hg7.tape, hg7.output, hg7.size, fun k hk hn => hg7.block k hk (fun e => hn (HA.out.2.2 k e.symm))⟩); clear ho7 hg7 hat7
    refine hKc.out _ _ (M7.out) (fun hHeld => ?_)
    clear hKc Kc
    try simp only [Act.put, List.setIfInBounds_toArray, List.set_cons_zero, List.set_cons_succ]
    refine wpAnyH_take (i := 8) (oi := ⟨some 26, _, _, _, _, _⟩) (v := ?_) rfl (by kernel_rfl) (by kernel_rfl) (by kernel_rfl) (fun _ _ _ h => h) (Or.inl ⟨by rfl, ?_⟩) (by assumption) ?_
    rotate_left
    · intro w hSw; (try dsimp only at hSw); go_simp; (try with_reducible rfl)
    try simp only [Act.put, List.setIfInBounds_toArray, List.set_cons_zero, List.set_cons_succ]
    refine wpAnyH_take (i := 9) (oi := ⟨some 27, _, _, _, _, _⟩) (v := ?_) rfl (by kernel_rfl) (by kernel_rfl) (by kernel_rfl) (fun _ _ _ h => h) (Or.inl ⟨by rfl, ?_⟩) (by assumption) ?_
    rotate_left
    · intro w hSw; (try dsimp only at hSw); go_simp; (try with_reducible rfl)
    try simp only [Act.put, List.setIfInBounds_toArray, List.set_cons_zero, List.set_cons_succ]
    refine wpAnyH_ready (rs := [10]) (by kernel_rfl) (by simp) (AllReadyH.cons (o := ⟨none, _, _, _, _, _⟩) rfl (fun Kc hKc => ?_) AllReadyH.nil)
    rw [if_pos (by rfl)]
    refine step_store_any 54 _ _ rfl g 0 59 _ [.slice A7 (n + 1) c7] _ rfl rfl rfl HB7.out info_slg (by show 0 + 1 ≤ 3; omega) (by simp [Value.oneCell']) ?_; intro w8 hb8 ho8; have HG8 : Hid (Bxo w8 g 59 [.slice A7 (n + 1) c7, .map (some mb), .int .i64 now]) := Go.Lib.hid hb8; have HO8 := Go.Lib.hid ho8; clear hb8 ho8
    refine hKc.out _ _ (M7.out.trans (gro_moves HO8.out.gro HF.out.1)) (fun hHeld => ?_)
    clear hKc Kc
    try simp only [Act.put, List.setIfInBounds_toArray, List.set_cons_zero, List.set_cons_succ]
    refine wpAnyH_done (by kernel_rfl) ?_ _
    have yq := hHeld
    clear hHeld
    have hw6 := V6.out.lt
    have hap : blk A7 ≠ some g ∧ blk A7 ≠ some mb := by
      rcases HAT.out with e | e
      · rw [e]; exact ⟨HA.out.1, HA.out.2.1⟩
      · rw [e]
        have h1 := HBg.out.lt
        have h2 := HP6.out.lt
        exact ⟨fun q => by injection q; omega, fun q => by injection q; omega⟩
    have HR8 := Go.Lib.hid (own_keepA (w' := w8) HO7.out (fun b hb => HO8.out.block b (fun e => hap.1 (by rw [hb, e]))))
    have HP8 := Go.Lib.hid (HP7.out.keep (HO8.out.block mb (Ne.symm hgm)))
    go_wp2
    go_end0
    refine ⟨rfl, fun b => b = g ∨ b = mb ∨ blk A7 = some b, ⟨A7, c7, mb, GR.mk' HNL.out HG8.out ?_ ?_ ⟨fun b => Iff.rfl, hgm, hap.1, hap.2, HGR.out.1, HGR.out.2.1, HGR.out.2.2⟩⟩, ?_, ?_⟩
    · have := HR8.out
      rw [List.flatMap_append]
      simpa [Al.L] using this
    · rw [HMP.out]
      exact HP8.out
    · rintro b (rfl | rfl | e)
      · exact .inl HF.out.1
      · exact .inl HF.out.2
      · rcases HAT.out with e' | e'
        · exact .inl (HA.out.2.2 b (by rw [← e', e]))
        · rw [e'] at e
          injection e with e
          exact .inr (by omega)
    · exact (moves_below y1).trans ((gro_moves yp HF.out.2).trans yq)
  ·
    go_simp
    have y6 : Below w2.heap.size w2 (w2.alloc (.cells #[.int .i64 a.num, .int .i64 a.at_] 67)).drew := below_drew ((Below.refl _ _).alloc (Nat.le_refl _) _); have HBg := Go.Lib.hid (HG2.out.keep y6 HG2.out.lt); have HR6 := Go.Lib.hid (own_keepA (w' := (w2.alloc (.cells #[.int .i64 a.num, .int .i64 a.at_] 67)).drew) HR2.out (fun b hb => y6.block b (own_ltI HR2.out b hb))); have HP6 := Go.Lib.hid (HP2.out.keep (y6.block mb HP2.out.lt)); have V6 := Go.Lib.hid (show Bxo (w2.alloc (.cells #[.int .i64 a.num, .int .i64 a.at_] 67)).drew w2.heap.size 67 (alL a) from Bxo.made w2 67 (alL a)); generalize (w2.alloc (.cells #[.int .i64 a.num, .int .i64 a.at_] 67)).drew = w6 at *
    refine hKc.out _ _ (moves_below y6) (fun hHeld => ?_)
    clear hKc Kc
    try simp only [Act.put, List.setIfInBounds_toArray, List.set_cons_zero, List.set_cons_succ]
    refine wpAnyH_ready (rs := [4]) (by kernel_rfl) (by simp) (AllReadyH.cons (o := ⟨some 22, _, _, _, _, _⟩) rfl (fun Kc hKc => ?_) AllReadyH.nil)
    rw [if_pos (by rfl)]
    have cx := HBg.out.cell 0 rfl; go_simp; clear cx
    refine hKc.out _ _ (hHeld) (fun hHeld => ?_)
    clear hKc Kc
    try simp only [Act.put, List.setIfInBounds_toArray, List.set_cons_zero, List.set_cons_succ]
    refine wpAnyH_ready (rs := [7]) (by kernel_rfl) (by simp) (AllReadyH.cons (o := ⟨some 25, _, _, _, _, _⟩) rfl (fun Kc hKc => ?_) AllReadyH.nil)
    rw [if_pos (by rfl)]
    refine step_appendI _ _ 54 rfl 0 67 i0_ _ 2 16 Try.underlying54 hi_ hz0 hz1 hz2 rfl (by omega) (.slice A n c) n (l.flatMap Al.L) rfl HR6.out ⟨w2.heap.size, 0, none⟩ 1 1 (alL a) rfl rfl V6.out.at (by simp [Value.oneCell']) (by unfold maxLen; omega) (by omega) (Nat.zero_le _) ?_; intro v7 w7 ho7 hg7 hat7; obtain ⟨A7, c7, rfl⟩ := own_slice ho7; rw [ownBlock_blk] at hg7; rw [ownBlock_blk, ownBlock_blk] at hat7; have z6 := y6.size; have HB7 := Go.Lib.hid ((hg7.block g HBg.out.lt (fun e => HA.out.1 e.symm)).trans HBg.out); have HP7 := Go.Lib.hid (HP6.out.keep (hg7.block mb HP6.out.lt (fun e => HA.out.2.1 e.symm))); have HO7 := Go.Lib.hid ho7; have HAT := Go.Lib.hid hat7; have M7 := Go.Lib.hid ((moves_below (F := F) y6).trans ⟨hg7.os, hg7.tape, hg7.output, hg7.size, fun k hk hn => hg7.block k hk (fun e => hn (HA.out.2.2 k e.symm))⟩); clear ho7 hg7 hat7
    refine hKc.out _ _ (M7.out) (fun hHeld => ?_)
    clear hKc Kc
    try simp only [Act.put, List.setIfInBounds_toArray, List.set_cons_zero, List.set_cons_succ]
    refine wpAnyH_take (i := 8) (oi := ⟨some 26, _, _, _, _, _⟩) (v := ?_) rfl (by kernel_rfl) (by kernel_rfl) (by kernel_rfl) (fun _ _ _ h => h) (Or.inl ⟨by rfl, ?_⟩) (by assumption) ?_
    rotate_left
    · intro w hSw; (try dsimp only at hSw); go_simp; (try with_reducible rfl)
    try simp only [Act.put, List.setIfInBounds_toArray, List.set_cons_zero, List.set_cons_succ]
    refine wpAnyH_take (i := 9) (oi := ⟨some 27, _, _, _, _, _⟩) (v := ?_) rfl (by kernel_rfl) (by kernel_rfl) (by kernel_rfl) (fun _ _ _ h => h) (Or.inl ⟨by rfl, ?_⟩) (by assumption) ?_
    rotate_left
    · intro w hSw; (try dsimp only at hSw); go_simp; (try with_reducible rfl)
    try simp only [Act.put, List.setIfInBounds_toArray, List.set_cons_zero, List.set_cons_succ]
    refine wpAnyH_ready (rs := [10]) (by kernel_rfl) (by simp) (AllReadyH.cons (o := ⟨none, _, _, _, _, _⟩) rfl (fun Kc hKc => ?_) AllReadyH.nil)
    rw [if_pos (by rfl)]
    refine step_store_any 54 _ _ rfl g 0 59 _ [.slice A7 (n + 1) c7] _ rfl rfl rfl HB7.out info_slg (by show 0 + 1 ≤ 3; omega) (by simp [Value.oneCell']) ?_; intro w8 hb8 ho8; have HG8 : Hid (Bxo w8 g 59 [.slice A7 (n + 1) c7, .map (some mb), .int .i64 now]) := Go.Lib.hid hb8; have HO8 := Go.Lib.hid ho8; clear hb8 ho8
    refine hKc.out _ _ (M7.out.trans (gro_moves HO8.out.gro HF.out.1)) (fun hHeld => ?_)
    clear hKc Kc
    try simp only [Act.put, List.setIfInBounds_toArray, List.set_cons_zero, List.set_cons_succ]
    refine wpAnyH_done (by kernel_rfl) ?_ _
    have yq := hHeld
    clear hHeld
    have hw6 := V6.out.lt
    have hap : blk A7 ≠ some g ∧ blk A7 ≠ some mb := by
      rcases HAT.out with e | e
      · rw [e]; exact ⟨HA.out.1, HA.out.2.1⟩
      · rw [e]
        have h1 := HBg.out.lt
        have h2 := HP6.out.lt
        exact ⟨fun q => by injection q; omega, fun q => by injection q; omega⟩
    have HR8 := Go.Lib.hid (own_keepA (w' := w8) HO7.out (fun b hb => HO8.out.block b (fun e => hap.1 (by rw [hb, e]))))
    have HP8 := Go.Lib.hid (HP7.out.keep (HO8.out.block mb (Ne.symm hgm)))
    go_wp2
    go_end0
    refine ⟨rfl, fun b => b = g ∨ b = mb ∨ blk A7 = some b, ⟨A7, c7, mb, GR.mk' HNL.out HG8.out ?_ ?_ ⟨fun b => Iff.rfl, hgm, hap.1, hap.2, HGR.out.1, HGR.out.2.1, HGR.out.2.2⟩⟩, ?_, ?_⟩
    · have := HR8.out
      rw [List.flatMap_append]
      simpa [Al.L] using this
    · rw [HMP.out]
      exact HP8.out
    · rintro b (rfl | rfl | e)
      · exact .inl HF.out.1
      · exact .inl HF.out.2
      · rcases HAT.out with e' | e'
        · exact .inl (HA.out.2.2 b (by rw [← e', e]))
        · rw [e'] at e
          injection e with e
          exact .inr (by omega)
    · exact (moves_below y1).trans ((gro_moves yp HF.out.2).trans yq)
end Go.Proofs.Ytebmomanpkmloaa
