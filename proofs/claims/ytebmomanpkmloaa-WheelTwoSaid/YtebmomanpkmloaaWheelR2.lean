/- Contracts of the document's own answers for package wheel: without. -/
import Derived.Test.YtebmomanpkmloaaWheelMem
namespace Go.Proofs.Ytebmomanpkmloaa
open Go.ChangeShapes Go.WideShapes Go.ChangeAt Go.RowKit
set_option linter.unusedVariables false
set_option linter.unusedSimpArgs false

theorem info_sla : (Try.prog.info? 26).map (·.size) = some 1 := by kernel_rfl
/-- append to a row of the call's own, as a step. -/
theorem step_appendI {P : Program} {op : Oper} {a : Act} {w : World} {K : Act → World → Prop} {Q : Exit → Act → World → Prop} (s x : Operand) (t : TypeId)
    (ho : op.op = .call { callee := .builtin .append, args := #[s, x], argTypes := #[t, t] })
    (base : Nat) (e : TypeId) (i : TypeInfo) (z : Value) (k bytes : Nat) (ht : P.underlying t = some (.slice e)) (hi : P.info? e = some i) (hz : i.zero = some z)
    (hsize : i.size = k) (hby : i.bytes = bytes) (hzs : z.cells.size = k) (hk : 0 < k)
    (v : Value) (n : Nat) (xs : List Value) (hs : a.eval s = v) (hown : w.ownsRow base e k v n xs)
    (ad : Addr) (m c : Nat) (news : List Value) (hx : a.eval x = .slice (some ad) m c) (hl : news.length = m * k) (hnews : ∀ j u, news[j]? = some u → w.cell? (ad.add j) = some u) (h1 : ∀ u ∈ news, u.oneCell' = true)
    (h63 : n + m ≤ maxLen) (hbytes : (n + m) * bytes ≤ 140737488355328) (hbase : base ≤ w.heap.size)
    (h : ∀ v' w', w'.ownsRow base e k v' (n + m) (xs ++ news) → w.grownBy w' v.ownBlock → (v'.ownBlock = v.ownBlock ∨ v'.ownBlock = some w.heap.size) → K (a.put op.dst v') w') : op.wp P a w K Q := by
  obtain ⟨v', w', hr, h2, h3, h4, h5⟩ := run_append_own_at (P := P) w base t op.type e i z k bytes ht hi hz hsize hby hzs hk v n xs hown ad m c news hl hnews h1 h63 hbytes hbase
  unfold Oper.wp execOp
  simp only [ho, resolve, invoke, builtin, Sem.run_bind, Sem.run_pure, Result.andThen_ok, List.map_toArray, List.map_cons, List.map_nil, hs, hx, hr]
  exact h v' w' h2 h3 h5
def WhPost (w : World) (x : Wh) (e : Ending) (w' : World) : Prop := ∃ A c, e = .returned (whV x A c) ∧ AlAt w' x.list A c ∧ Below w.heap.size w w' ∧ ∀ ad, A = some ad → w.heap.size ≤ ad.block ∧ ad.block < w'.heap.size
theorem AlAt.first {w : World} {l : List Al} {ad : Addr} {c : Nat} (h : AlAt w l (some ad) c) (k : Nat) : ∀ Y, Below w.heap.size w Y → ∀ j u, ((l.take k).flatMap Al.L)[j]? = some u → Y.cell? (ad.add j) = some u := fun Y y j u hj => by
  rcases (h.at y).rd with h' | ⟨ad', e, h'⟩
  · rw [← flat_take Al.L 2 Al.len, h', List.take_nil] at hj; cases hj
  · injection e with e; subst e
    rw [← flat_take Al.L 2 Al.len, List.getElem?_take] at hj
    split at hj
    · exact h' j u hj
    · cases hj
theorem AlAt.last {w : World} {l : List Al} {ad : Addr} {c : Nat} (h : AlAt w l (some ad) c) {k : Nat} (hk : k < l.length) : ∃ ad4, (if c = k + 1 then some ad else some (ad.add ((k + 1) * 2))) = some ad4 ∧ ∀ Y, Below w.heap.size w Y → ∀ j u, ((l.drop (k + 1)).flatMap Al.L)[j]? = some u → Y.cell? (ad4.add j) = some u := by
  have hc := h.len
  by_cases e : c = k + 1
  · refine ⟨ad, if_pos e, fun Y y j u hj => ?_⟩
    rw [List.drop_eq_nil_of_le (by omega)] at hj
    cases hj
  · refine ⟨_, if_neg e, fun Y y j u hj => ?_⟩
    rcases (h.at y).rd with h' | ⟨ad', e', h'⟩
    · rw [← flat_drop Al.L 2 Al.len, h', List.drop_nil] at hj; cases hj
    · injection e' with e'; subst e'
      rw [← flat_drop Al.L 2 Al.len, List.getElem?_drop] at hj
      rw [add_add]
      exact h' _ u hj
theorem AlAt.keepR {w w' : World} {l : List Al} {A : Option Addr} {c : Nat} (h : AlAt w l A c) (hk : ∀ ad, A = some ad → w'.heap[ad.block]? = w.heap[ad.block]?) : AlAt w' l A c := by
  refine ⟨h.len, h.cap, h.nil, ?_⟩
  rcases h.rd with h0 | ⟨ad, e, hc⟩
  · exact .inl h0
  · refine .inr ⟨ad, e, fun j u hj => ?_⟩
    have q := World.cell?_of_block (w := w) (w' := w') (a := ad.add j) (by rw [block_add]; exact hk ad e)
    rw [q]
    exact hc j u hj
set_option maxRecDepth 100000 in
set_option maxHeartbeats 8000000 in
theorem rwithout11 (x : Wh) (A : Option Addr) (c p : Nat) (w : World) (h : AlAt w x.list A c) (hp : p < x.list.length) (hbig : x.list.length ≤ 65536) :
    Calls Try.prog 21 #[whV x A c, .int .i64 p] w (WhPost w ⟨x.list.take p ++ x.list.drop (p + 1), x.now⟩) := by
  obtain ⟨ad, rfl, _⟩ := h.cell hp
  have hlc := h.len
  have hcc := h.cap
  have HFI := Go.Lib.hid (h.first p)
  obtain ⟨ad4, hif, hla⟩ := h.last hp
  have HLA := Go.Lib.hid hla
  have HLT : Hid (((x.list.take p).flatMap Al.L).length = p * 2) := Go.Lib.hid (by rw [flat_len Al.L 2 Al.len, List.length_take, Nat.min_eq_left (by omega)])
  have HLD : Hid (((x.list.drop (p + 1)).flatMap Al.L).length = (x.list.length - (p + 1)) * 2) := Go.Lib.hid (by rw [flat_len Al.L 2 Al.len, List.length_drop])
  have y0 : Below w.heap.size w ((w.alloc (oWh x (some ad) c)).alloc (oWh wh0 none 0)) := below_alloc (below_alloc (Below.refl _ _) (Nat.le_refl _) _) (by simp) _
  have h1 := (Bxo.made w 28 (whL x (some ad) c)).alloc (oWh wh0 none 0)
  have h2 : Bxo ((w.alloc (oWh x (some ad) c)).alloc (oWh wh0 none 0)) (w.heap.size + 1) 28 (whL wh0 none 0) := by
    have := Bxo.made (w.alloc (oWh x (some ad) c)) 28 (whL wh0 none 0)
    simpa using this
  have hz : ((w.alloc (oWh x (some ad) c)).alloc (oWh wh0 none 0)).heap.size = w.heap.size + 2 := by simp
  have p0 : (0 : Int) ≤ (p : Int) := by omega
  have p1 : (0 : Int) ≤ (p : Int) + 1 := by omega
  have p2 : (p : Int) ≤ (c : Int) := by omega
  have p3 : (p : Int) + 1 ≤ (x.list.length : Int) := by omega
  have p4 : (x.list.length : Int) ≤ (c : Int) := by omega
  have s5 : IntKind.i64.wrap ((p : Int) + 1) = (p : Int) + 1 := IntWalk.i64_in _ (by omega)
  obtain ⟨i0, hi, hz0, hz1, hz2⟩ := info_parts info_alz
  clear h hla
  go_enter Try.func21, Try.ntmps21
  go_upto_region 1 with fail
  generalize ((w.alloc (oWh x (some ad) c)).alloc (oWh wh0 none 0)) = W at *
  have HW0 := Go.Lib.hid h1
  have HZ0 := Go.Lib.hid h2
  have hlt0 : w.heap.size < W.heap.size := by omega
  have hlt1 : w.heap.size + 1 < W.heap.size := by omega
  have HB : Hid (Bxo W.drew w.heap.size 28 (whL x (some ad) c)) := Go.Lib.hid HW0.out.drew
  clear h1 h2 hz
  try simp only [Act.put, List.setIfInBounds_toArray, List.set_cons_zero, List.set_cons_succ]
  refine wp_region_held_drew (S := fun Y => Below w.heap.size w Y) (by kernel_rfl) ?_ (fun hHeld => ?_)
  · exact below_drew y0
  refine wpAnyH_take (i := 1) (oi := ⟨some 6, _, _, _, _, _⟩) (v := ?_) rfl (by kernel_rfl) (by kernel_rfl) (by kernel_rfl) (fun _ _ _ h => h) (Or.inl ⟨by rfl, ?_⟩) (by assumption) ?_
  rotate_left
  · intro w hSw; (try dsimp only at hSw); go_simp; (try with_reducible rfl)
  try simp only [Act.put, List.setIfInBounds_toArray, List.set_cons_zero, List.set_cons_succ]
  refine wpAnyH_take (i := 3) (oi := ⟨some 8, _, _, _, _, _⟩) (v := ?_) rfl (by kernel_rfl) (by kernel_rfl) (by kernel_rfl) (fun _ _ _ h => h) (Or.inl ⟨by rfl, ?_⟩) (by assumption) ?_
  rotate_left
  · intro w hSw; (try dsimp only at hSw); go_simp; (try with_reducible rfl)
  try simp only [Act.put, List.setIfInBounds_toArray, List.set_cons_zero, List.set_cons_succ]
  refine wpAnyH_take (i := 6) (oi := ⟨some 11, _, _, _, _, _⟩) (v := ?_) rfl (by kernel_rfl) (by kernel_rfl) (by kernel_rfl) (fun _ _ _ h => h) (Or.inl ⟨by rfl, ?_⟩) (by assumption) ?_
  rotate_left
  · intro w hSw; (try dsimp only at hSw); go_simp; (try with_reducible rfl)
  try simp only [Act.put, List.setIfInBounds_toArray, List.set_cons_zero, List.set_cons_succ]
  refine wpAnyH_take (i := 8) (oi := ⟨some 13, _, _, _, _, _⟩) (v := ?_) rfl (by kernel_rfl) (by kernel_rfl) (by kernel_rfl) (fun _ _ _ h => h) (Or.inl ⟨by rfl, ?_⟩) (by assumption) ?_
  rotate_left
  · intro w hSw; (try dsimp only at hSw); go_simp; (try with_reducible rfl)
  try simp only [Act.put, List.setIfInBounds_toArray, List.set_cons_zero, List.set_cons_succ]
  refine wpAnyH_take (i := 9) (oi := ⟨some 14, _, _, _, _, _⟩) (v := ?_) rfl (by kernel_rfl) (by kernel_rfl) (by kernel_rfl) (fun _ _ _ h => h) (Or.inl ⟨by rfl, ?_⟩) (by assumption) ?_
  rotate_left
  · intro w hSw; (try dsimp only at hSw); go_simp; (try with_reducible rfl)
  try simp only [Act.put, List.setIfInBounds_toArray, List.set_cons_zero, List.set_cons_succ]
  refine wpAnyH_ready (rs := [0, 2, 7]) (by kernel_rfl) (by simp) (AllReadyH.cons (o := ⟨some 5, _, _, _, _, _⟩) rfl (fun Kc hKc => ?_) (AllReadyH.cons (o := ⟨some 7, _, _, _, _, _⟩) rfl (fun Kc hKc => ?_) (AllReadyH.cons (o := ⟨some 12, _, _, _, _, _⟩) rfl (fun Kc hKc => ?_) AllReadyH.nil)))
  ·
    go_simp
    have V20 : Hid (World.ownsRow (W.alloc (.cells #[] 63)).drew W.heap.size 63 2 (.slice (some ⟨W.heap.size, 0, none⟩) 0 0) 0 []) := Go.Lib.hid (World.ownsRow_made W #[] 0 (Nat.le_refl _) (by unfold maxLen; omega) (by simp)); have y20 : Below W.heap.size W (W.alloc (.cells #[] 63)).drew := below_drew ((Below.refl _ _).alloc (Nat.le_refl _) _); have HB := Go.Lib.hid (HW0.out.keep y20 hlt0); have HZ := Go.Lib.hid (HZ0.out.keep y20 hlt1); have v20 := y0.trans (y20.mono y0.size); generalize (W.alloc (.cells #[] 63)).drew = w20 at *; have z20 := y20.size
    refine hKc.out _ _ (v20) (fun hHeld => ?_)
    clear hKc Kc
    try simp only [Act.put, List.setIfInBounds_toArray, List.set_cons_zero, List.set_cons_succ]
    refine wpAnyH_ready (rs := [2, 7]) (by kernel_rfl) (by simp) (AllReadyH.cons (o := ⟨some 7, _, _, _, _, _⟩) rfl (fun Kc hKc => ?_) (AllReadyH.cons (o := ⟨some 12, _, _, _, _, _⟩) rfl (fun Kc hKc => ?_) AllReadyH.nil))
    ·
      rw [if_pos (by rfl)]
      have cx := HB.out.cell 0 rfl; go_simp; clear cx
      refine hKc.out _ _ (hHeld) (fun hHeld => ?_)
      clear hKc Kc
      try simp only [Act.put, List.setIfInBounds_toArray, List.set_cons_zero, List.set_cons_succ]
      refine wpAnyH_take (i := 4) (oi := ⟨some 9, _, _, _, _, _⟩) (v := ?_) rfl (by kernel_rfl) (by kernel_rfl) (by kernel_rfl) (fun _ _ _ h => h) (Or.inl ⟨by rfl, ?_⟩) (by assumption) ?_
      rotate_left
      · intro w hSw; (try dsimp only at hSw); go_simp; (try with_reducible rfl)
      try simp only [Act.put, List.setIfInBounds_toArray, List.set_cons_zero, List.set_cons_succ]
      refine wpAnyH_ready (rs := [5, 7]) (by kernel_rfl) (by simp) (AllReadyH.cons (o := ⟨some 10, _, _, _, _, _⟩) rfl (fun Kc hKc => ?_) (AllReadyH.cons (o := ⟨some 12, _, _, _, _, _⟩) rfl (fun Kc hKc => ?_) AllReadyH.nil))
      ·
        rw [if_pos (by rfl)]
        refine step_appendI _ _ 26 rfl W.heap.size 63 i0 _ 2 16 Try.underlying26 hi hz0 hz1 hz2 rfl (by omega) (.slice (some ⟨W.heap.size, 0, none⟩) 0 0) 0 [] rfl V20.out ad p c ((x.list.take p).flatMap Al.L) rfl HLT.out (HFI.out w20 v20) (al_one _) (by unfold maxLen; omega) (by omega) z20 ?_; intro v21 w21 ho21 hg21 hat21; rw [Nat.zero_add, List.nil_append] at ho21; obtain ⟨A21, c21, rfl⟩ := own_slice ho21; have y21 := grownI (w0 := W) hg21 (fun g e => by rw [ownBlock_blk] at e; injection e with e; have e : W.heap.size = g := e; omega) z20; have HB := Go.Lib.hid (HB.out.keep y21 hlt0); have HZ := Go.Lib.hid (HZ.out.keep y21 hlt1); have v21 := v20.trans (y21.mono y0.size); have HO21 := Go.Lib.hid ho21; have z21 := Nat.le_trans z20 y21.size; clear ho21 hg21 hat21
        refine hKc.out _ _ (v21) (fun hHeld => ?_)
        clear hKc Kc
        try simp only [Act.put, List.setIfInBounds_toArray, List.set_cons_zero, List.set_cons_succ]
        refine wpAnyH_ready (rs := [7]) (by kernel_rfl) (by simp) (AllReadyH.cons (o := ⟨some 12, _, _, _, _, _⟩) rfl (fun Kc hKc => ?_) AllReadyH.nil)
        rw [if_pos (by rfl)]
        have cx := HB.out.cell 0 rfl; go_simp; clear cx
        refine hKc.out _ _ (hHeld) (fun hHeld => ?_)
        clear hKc Kc
        try simp only [Act.put, List.setIfInBounds_toArray, List.set_cons_zero, List.set_cons_succ]
        refine wpAnyH_take (i := 10) (oi := ⟨some 15, _, _, _, _, _⟩) (v := ?_) rfl (by kernel_rfl) (by kernel_rfl) (by kernel_rfl) (fun _ _ _ h => h) (Or.inl ⟨by rfl, ?_⟩) (by assumption) ?_
        rotate_left
        · intro w hSw; (try dsimp only at hSw); go_simp; (try with_reducible rfl)
        try simp only [Act.put, List.setIfInBounds_toArray, List.set_cons_zero, List.set_cons_succ]
        refine wpAnyH_ready (rs := [11]) (by kernel_rfl) (by simp) (AllReadyH.cons (o := ⟨some 16, _, _, _, _, _⟩) rfl (fun Kc hKc => ?_) AllReadyH.nil)
        rw [if_pos (by rfl)]
        (try rw [hif]); refine step_appendI _ _ 26 rfl W.heap.size 63 i0 _ 2 16 Try.underlying26 hi hz0 hz1 hz2 rfl (by omega) (.slice A21 p c21) p ((x.list.take p).flatMap Al.L) rfl HO21.out ad4 (x.list.length - (p + 1)) (c - (p + 1)) ((x.list.drop (p + 1)).flatMap Al.L) rfl HLD.out (HLA.out w21 v21) (al_one _) (by unfold maxLen; omega) (by omega) z21 ?_; intro v22 w22 ho22 hg22 hat22; obtain ⟨A22, c22, rfl⟩ := own_slice ho22; have y22 := grownI (w0 := W) hg22 (fun g e => by rw [ownBlock_blk] at e; exact own_geI HO21.out g e) z21; have HB := Go.Lib.hid (HB.out.keep y22 hlt0); have HZ := Go.Lib.hid (HZ.out.keep y22 hlt1); have v22 := v21.trans (y22.mono y0.size); have HO22 := Go.Lib.hid ho22; have z22 := Nat.le_trans z21 y22.size; clear ho22 hg22 hat22
        refine hKc.out _ _ (v22) (fun hHeld => ?_)
        clear hKc Kc
        try simp only [Act.put, List.setIfInBounds_toArray, List.set_cons_zero, List.set_cons_succ]
        refine wpAnyH_take (i := 12) (oi := ⟨some 17, _, _, _, _, _⟩) (v := ?_) rfl (by kernel_rfl) (by kernel_rfl) (by kernel_rfl) (fun _ _ _ h => h) (Or.inl ⟨by rfl, ?_⟩) (by assumption) ?_
        rotate_left
        · intro w hSw; (try dsimp only at hSw); go_simp; (try with_reducible rfl)
        try simp only [Act.put, List.setIfInBounds_toArray, List.set_cons_zero, List.set_cons_succ]
        refine wpAnyH_ready (rs := [13]) (by kernel_rfl) (by simp) (AllReadyH.cons (o := ⟨none, _, _, _, _, _⟩) rfl (fun Kc hKc => ?_) AllReadyH.nil)
        rw [if_pos (by rfl)]
        refine step_store_any 26 _ _ rfl w.heap.size 0 28 (whL x (some ad) c) [.slice A22 (p + (x.list.length - (p + 1))) c22] _ rfl rfl rfl HB.out info_sla (by show 0 + 1 ≤ 2; omega) (by simp [Value.oneCell']) ?_; intro w23 hb23 ho23; have HB23 := Go.Lib.hid hb23; have HZ := Go.Lib.hid (HZ.out.only ho23 (by omega)); have v23 := v22.trans (ho23.below (Nat.le_refl _)); clear hb23
        refine hKc.out _ _ (v23) (fun hHeld => ?_)
        clear hKc Kc
        try simp only [Act.put, List.setIfInBounds_toArray, List.set_cons_zero, List.set_cons_succ]
        refine wpAnyH_done (by kernel_rfl) ?_ _
        clear hHeld
        have hlx : p + (x.list.length - (p + 1)) = (x.list.take p ++ x.list.drop (p + 1)).length := by rw [List.length_append, List.length_take, List.length_drop]; omega
        have hrow := HO22.out
        rw [hlx] at hrow
        have HR : Hid (AlAt w23 (x.list.take p ++ x.list.drop (p + 1)) A22 c22) := Go.Lib.hid (AlAt.ofOwn rfl (own_keepA (w' := w23) (by rw [List.flatMap_append]; exact hrow) (fun g hg => ho23.block g (by have := own_geI hrow g hg; omega))))
        have HB24 : Hid (Bxo w23 w.heap.size 28 (whL ⟨x.list.take p ++ x.list.drop (p + 1), x.now⟩ A22 c22)) := Go.Lib.hid (by have q := HB23.out; rw [hlx] at q; exact q)
        have HNE : Hid (∀ ad', A22 = some ad' → W.heap.size ≤ ad'.block ∧ ad'.block < w23.heap.size) := Go.Lib.hid (fun ad' e => ⟨own_geI hrow ad'.block (by rw [e]; rfl), by have h1 := own_ltI hrow ad'.block (by rw [e]; rfl); have h2 := ho23.size; omega⟩); clear HB23 HB hrow hlx HO22 ho23
        go_wp2_with (first
          | (refine wpList_load_box rfl 28 _ rfl w.heap.size rfl (whL ⟨x.list.take p ++ x.list.drop (p + 1), x.now⟩ A22 c22) _ HB24.out Try.underlying28 rfl info_wh ?_)
          | (refine wpList_store_any rfl 28 _ _ rfl (w.heap.size + 1) 0 28 _ (whL ⟨x.list.take p ++ x.list.drop (p + 1), x.now⟩ A22 c22) _ rfl rfl rfl HZ.out info_wh (by show 0 + 2 ≤ 2; omega) (by simp [Value.oneCell']) ?_; intro wF hbF hoF; have HBF := Go.Lib.hid hbF; clear hbF))
        exact bodyPost_ret (v := whV ⟨x.list.take p ++ x.list.drop (p + 1), x.now⟩ A22 c22) (results_cell_row rfl _ _ (w.heap.size + 1) 28 _ _ _ rfl HBF.out Try.underlying28 rfl info_wh) rfl ⟨A22, c22, rfl, (HR.out.keepR (fun ad' e => hoF.block _ (by have := HNE.out ad' e; omega))), v23.trans (hoF.below (show w.heap.size ≤ w.heap.size + 1 by omega)), fun ad' e => ⟨Nat.le_trans y0.size (HNE.out ad' e).1, by have h1 := (HNE.out ad' e).2; have h2 := hoF.size; omega⟩⟩
      ·
        rw [if_pos (by rfl)]
        have cx := HB.out.cell 0 rfl; go_simp; clear cx
        refine hKc.out _ _ (hHeld) (fun hHeld => ?_)
        clear hKc Kc
        try simp only [Act.put, List.setIfInBounds_toArray, List.set_cons_zero, List.set_cons_succ]
        refine wpAnyH_take (i := 10) (oi := ⟨some 15, _, _, _, _, _⟩) (v := ?_) rfl (by kernel_rfl) (by kernel_rfl) (by kernel_rfl) (fun _ _ _ h => h) (Or.inl ⟨by rfl, ?_⟩) (by assumption) ?_
        rotate_left
        · intro w hSw; (try dsimp only at hSw); go_simp; (try with_reducible rfl)
        try simp only [Act.put, List.setIfInBounds_toArray, List.set_cons_zero, List.set_cons_succ]
        refine wpAnyH_ready (rs := [5]) (by kernel_rfl) (by simp) (AllReadyH.cons (o := ⟨some 10, _, _, _, _, _⟩) rfl (fun Kc hKc => ?_) AllReadyH.nil)
        rw [if_pos (by rfl)]
        refine step_appendI _ _ 26 rfl W.heap.size 63 i0 _ 2 16 Try.underlying26 hi hz0 hz1 hz2 rfl (by omega) (.slice (some ⟨W.heap.size, 0, none⟩) 0 0) 0 [] rfl V20.out ad p c ((x.list.take p).flatMap Al.L) rfl HLT.out (HFI.out w20 v20) (al_one _) (by unfold maxLen; omega) (by omega) z20 ?_; intro v21 w21 ho21 hg21 hat21; rw [Nat.zero_add, List.nil_append] at ho21; obtain ⟨A21, c21, rfl⟩ := own_slice ho21; have y21 := grownI (w0 := W) hg21 (fun g e => by rw [ownBlock_blk] at e; injection e with e; have e : W.heap.size = g := e; omega) z20; have HB := Go.Lib.hid (HB.out.keep y21 hlt0); have HZ := Go.Lib.hid (HZ.out.keep y21 hlt1); have v21 := v20.trans (y21.mono y0.size); have HO21 := Go.Lib.hid ho21; have z21 := Nat.le_trans z20 y21.size; clear ho21 hg21 hat21
        refine hKc.out _ _ (v21) (fun hHeld => ?_)
        clear hKc Kc
        try simp only [Act.put, List.setIfInBounds_toArray, List.set_cons_zero, List.set_cons_succ]
        refine wpAnyH_ready (rs := [11]) (by kernel_rfl) (by simp) (AllReadyH.cons (o := ⟨some 16, _, _, _, _, _⟩) rfl (fun Kc hKc => ?_) AllReadyH.nil)
        rw [if_pos (by rfl)]
        (try rw [hif]); refine step_appendI _ _ 26 rfl W.heap.size 63 i0 _ 2 16 Try.underlying26 hi hz0 hz1 hz2 rfl (by omega) (.slice A21 p c21) p ((x.list.take p).flatMap Al.L) rfl HO21.out ad4 (x.list.length - (p + 1)) (c - (p + 1)) ((x.list.drop (p + 1)).flatMap Al.L) rfl HLD.out (HLA.out w21 v21) (al_one _) (by unfold maxLen; omega) (by omega) z21 ?_; intro v22 w22 ho22 hg22 hat22; obtain ⟨A22, c22, rfl⟩ := own_slice ho22; have y22 := grownI (w0 := W) hg22 (fun g e => by rw [ownBlock_blk] at e; exact own_geI HO21.out g e) z21; have HB := Go.Lib.hid (HB.out.keep y22 hlt0); have HZ := Go.Lib.hid (HZ.out.keep y22 hlt1); have v22 := v21.trans (y22.mono y0.size); have HO22 := Go.Lib.hid ho22; have z22 := Nat.le_trans z21 y22.size; clear ho22 hg22 hat22
        refine hKc.out _ _ (v22) (fun hHeld => ?_)
        clear hKc Kc
        try simp only [Act.put, List.setIfInBounds_toArray, List.set_cons_zero, List.set_cons_succ]
        refine wpAnyH_take (i := 12) (oi := ⟨some 17, _, _, _, _, _⟩) (v := ?_) rfl (by kernel_rfl) (by kernel_rfl) (by kernel_rfl) (fun _ _ _ h => h) (Or.inl ⟨by rfl, ?_⟩) (by assumption) ?_
        rotate_left
        · intro w hSw; (try dsimp only at hSw); go_simp; (try with_reducible rfl)
        try simp only [Act.put, List.setIfInBounds_toArray, List.set_cons_zero, List.set_cons_succ]
        refine wpAnyH_ready (rs := [13]) (by kernel_rfl) (by simp) (AllReadyH.cons (o := ⟨none, _, _, _, _, _⟩) rfl (fun Kc hKc => ?_) AllReadyH.nil)
        rw [if_pos (by rfl)]
        refine step_store_any 26 _ _ rfl w.heap.size 0 28 (whL x (some ad) c) [.slice A22 (p + (x.list.length - (p + 1))) c22] _ rfl rfl rfl HB.out info_sla (by show 0 + 1 ≤ 2; omega) (by simp [Value.oneCell']) ?_; intro w23 hb23 ho23; have HB23 := Go.Lib.hid hb23; have HZ := Go.Lib.hid (HZ.out.only ho23 (by omega)); have v23 := v22.trans (ho23.below (Nat.le_refl _)); clear hb23
        refine hKc.out _ _ (v23) (fun hHeld => ?_)
        clear hKc Kc
        try simp only [Act.put, List.setIfInBounds_toArray, List.set_cons_zero, List.set_cons_succ]
        refine wpAnyH_done (by kernel_rfl) ?_ _
        clear hHeld
        have hlx : p + (x.list.length - (p + 1)) = (x.list.take p ++ x.list.drop (p + 1)).length := by rw [List.length_append, List.length_take, List.length_drop]; omega
        have hrow := HO22.out
        rw [hlx] at hrow
        have HR : Hid (AlAt w23 (x.list.take p ++ x.list.drop (p + 1)) A22 c22) := Go.Lib.hid (AlAt.ofOwn rfl (own_keepA (w' := w23) (by rw [List.flatMap_append]; exact hrow) (fun g hg => ho23.block g (by have := own_geI hrow g hg; omega))))
        have HB24 : Hid (Bxo w23 w.heap.size 28 (whL ⟨x.list.take p ++ x.list.drop (p + 1), x.now⟩ A22 c22)) := Go.Lib.hid (by have q := HB23.out; rw [hlx] at q; exact q)
        have HNE : Hid (∀ ad', A22 = some ad' → W.heap.size ≤ ad'.block ∧ ad'.block < w23.heap.size) := Go.Lib.hid (fun ad' e => ⟨own_geI hrow ad'.block (by rw [e]; rfl), by have h1 := own_ltI hrow ad'.block (by rw [e]; rfl); have h2 := ho23.size; omega⟩); clear HB23 HB hrow hlx HO22 ho23
        go_wp2_with (first
          | (refine wpList_load_box rfl 28 _ rfl w.heap.size rfl (whL ⟨x.list.take p ++ x.list.drop (p + 1), x.now⟩ A22 c22) _ HB24.out Try.underlying28 rfl info_wh ?_)
          | (refine wpList_store_any rfl 28 _ _ rfl (w.heap.size + 1) 0 28 _ (whL ⟨x.list.take p ++ x.list.drop (p + 1), x.now⟩ A22 c22) _ rfl rfl rfl HZ.out info_wh (by show 0 + 2 ≤ 2; omega) (by simp [Value.oneCell']) ?_; intro wF hbF hoF; have HBF := Go.Lib.hid hbF; clear hbF))
        exact bodyPost_ret (v := whV ⟨x.list.take p ++ x.list.drop (p + 1), x.now⟩ A22 c22) (results_cell_row rfl _ _ (w.heap.size + 1) 28 _ _ _ rfl HBF.out Try.underlying28 rfl info_wh) rfl ⟨A22, c22, rfl, (HR.out.keepR (fun ad' e => hoF.block _ (by have := HNE.out ad' e; omega))), v23.trans (hoF.below (show w.heap.size ≤ w.heap.size + 1 by omega)), fun ad' e => ⟨Nat.le_trans y0.size (HNE.out ad' e).1, by have h1 := (HNE.out ad' e).2; have h2 := hoF.size; omega⟩⟩
    ·
      rw [if_pos (by rfl)]
      have cx := HB.out.cell 0 rfl; go_simp; clear cx
      refine hKc.out _ _ (hHeld) (fun hHeld => ?_)
      clear hKc Kc
      try simp only [Act.put, List.setIfInBounds_toArray, List.set_cons_zero, List.set_cons_succ]
      refine wpAnyH_take (i := 10) (oi := ⟨some 15, _, _, _, _, _⟩) (v := ?_) rfl (by kernel_rfl) (by kernel_rfl) (by kernel_rfl) (fun _ _ _ h => h) (Or.inl ⟨by rfl, ?_⟩) (by assumption) ?_
      rotate_left
      · intro w hSw; (try dsimp only at hSw); go_simp; (try with_reducible rfl)
      try simp only [Act.put, List.setIfInBounds_toArray, List.set_cons_zero, List.set_cons_succ]
      refine wpAnyH_ready (rs := [2]) (by kernel_rfl) (by simp) (AllReadyH.cons (o := ⟨some 7, _, _, _, _, _⟩) rfl (fun Kc hKc => ?_) AllReadyH.nil)
      rw [if_pos (by rfl)]
      have cx := HB.out.cell 0 rfl; go_simp; clear cx
      refine hKc.out _ _ (hHeld) (fun hHeld => ?_)
      clear hKc Kc
      try simp only [Act.put, List.setIfInBounds_toArray, List.set_cons_zero, List.set_cons_succ]
      refine wpAnyH_take (i := 4) (oi := ⟨some 9, _, _, _, _, _⟩) (v := ?_) rfl (by kernel_rfl) (by kernel_rfl) (by kernel_rfl) (fun _ _ _ h => h) (Or.inl ⟨by rfl, ?_⟩) (by assumption) ?_
      rotate_left
      · intro w hSw; (try dsimp only at hSw); go_simp; (try with_reducible rfl)
      try simp only [Act.put, List.setIfInBounds_toArray, List.set_cons_zero, List.set_cons_succ]
      refine wpAnyH_ready (rs := [5]) (by kernel_rfl) (by simp) (AllReadyH.cons (o := ⟨some 10, _, _, _, _, _⟩) rfl (fun Kc hKc => ?_) AllReadyH.nil)
      rw [if_pos (by rfl)]
      refine step_appendI _ _ 26 rfl W.heap.size 63 i0 _ 2 16 Try.underlying26 hi hz0 hz1 hz2 rfl (by omega) (.slice (some ⟨W.heap.size, 0, none⟩) 0 0) 0 [] rfl V20.out ad p c ((x.list.take p).flatMap Al.L) rfl HLT.out (HFI.out w20 v20) (al_one _) (by unfold maxLen; omega) (by omega) z20 ?_; intro v21 w21 ho21 hg21 hat21; rw [Nat.zero_add, List.nil_append] at ho21; obtain ⟨A21, c21, rfl⟩ := own_slice ho21; have y21 := grownI (w0 := W) hg21 (fun g e => by rw [ownBlock_blk] at e; injection e with e; have e : W.heap.size = g := e; omega) z20; have HB := Go.Lib.hid (HB.out.keep y21 hlt0); have HZ := Go.Lib.hid (HZ.out.keep y21 hlt1); have v21 := v20.trans (y21.mono y0.size); have HO21 := Go.Lib.hid ho21; have z21 := Nat.le_trans z20 y21.size; clear ho21 hg21 hat21
      refine hKc.out _ _ (v21) (fun hHeld => ?_)
      clear hKc Kc
      try simp only [Act.put, List.setIfInBounds_toArray, List.set_cons_zero, List.set_cons_succ]
      refine wpAnyH_ready (rs := [11]) (by kernel_rfl) (by simp) (AllReadyH.cons (o := ⟨some 16, _, _, _, _, _⟩) rfl (fun Kc hKc => ?_) AllReadyH.nil)
      rw [if_pos (by rfl)]
      (try rw [hif]); refine step_appendI _ _ 26 rfl W.heap.size 63 i0 _ 2 16 Try.underlying26 hi hz0 hz1 hz2 rfl (by omega) (.slice A21 p c21) p ((x.list.take p).flatMap Al.L) rfl HO21.out ad4 (x.list.length - (p + 1)) (c - (p + 1)) ((x.list.drop (p + 1)).flatMap Al.L) rfl HLD.out (HLA.out w21 v21) (al_one _) (by unfold maxLen; omega) (by omega) z21 ?_; intro v22 w22 ho22 hg22 hat22; obtain ⟨A22, c22, rfl⟩ := own_slice ho22; have y22 := grownI (w0 := W) hg22 (fun g e => by rw [ownBlock_blk] at e; exact own_geI HO21.out g e) z21; have HB := Go.Lib.hid (HB.out.keep y22 hlt0); have HZ := Go.Lib.hid (HZ.out.keep y22 hlt1); have v22 := v21.trans (y22.mono y0.size); have HO22 := Go.Lib.hid ho22; have z22 := Nat.le_trans z21 y22.size; clear ho22 hg22 hat22
      refine hKc.out _ _ (v22) (fun hHeld => ?_)
      clear hKc Kc
      try simp only [Act.put, List.setIfInBounds_toArray, List.set_cons_zero, List.set_cons_succ]
      refine wpAnyH_take (i := 12) (oi := ⟨some 17, _, _, _, _, _⟩) (v := ?_) rfl (by kernel_rfl) (by kernel_rfl) (by kernel_rfl) (fun _ _ _ h => h) (Or.inl ⟨by rfl, ?_⟩) (by assumption) ?_
      rotate_left
      · intro w hSw; (try dsimp only at hSw); go_simp; (try with_reducible rfl)
      try simp only [Act.put, List.setIfInBounds_toArray, List.set_cons_zero, List.set_cons_succ]
      refine wpAnyH_ready (rs := [13]) (by kernel_rfl) (by simp) (AllReadyH.cons (o := ⟨none, _, _, _, _, _⟩) rfl (fun Kc hKc => ?_) AllReadyH.nil)
      rw [if_pos (by rfl)]
      refine step_store_any 26 _ _ rfl w.heap.size 0 28 (whL x (some ad) c) [.slice A22 (p + (x.list.length - (p + 1))) c22] _ rfl rfl rfl HB.out info_sla (by show 0 + 1 ≤ 2; omega) (by simp [Value.oneCell']) ?_; intro w23 hb23 ho23; have HB23 := Go.Lib.hid hb23; have HZ := Go.Lib.hid (HZ.out.only ho23 (by omega)); have v23 := v22.trans (ho23.below (Nat.le_refl _)); clear hb23
      refine hKc.out _ _ (v23) (fun hHeld => ?_)
      clear hKc Kc
      try simp only [Act.put, List.setIfInBounds_toArray, List.set_cons_zero, List.set_cons_succ]
      refine wpAnyH_done (by kernel_rfl) ?_ _
      clear hHeld
      have hlx : p + (x.list.length - (p + 1)) = (x.list.take p ++ x.list.drop (p + 1)).length := by rw [List.length_append, List.length_take, List.length_drop]; omega
      have hrow := HO22.out
      rw [hlx] at hrow
      have HR : Hid (AlAt w23 (x.list.take p ++ x.list.drop (p + 1)) A22 c22) := Go.Lib.hid (AlAt.ofOwn rfl (own_keepA (w' := w23) (by rw [List.flatMap_append]; exact hrow) (fun g hg => ho23.block g (by have := own_geI hrow g hg; omega))))
      have HB24 : Hid (Bxo w23 w.heap.size 28 (whL ⟨x.list.take p ++ x.list.drop (p + 1), x.now⟩ A22 c22)) := Go.Lib.hid (by have q := HB23.out; rw [hlx] at q; exact q)
      have HNE : Hid (∀ ad', A22 = some ad' → W.heap.size ≤ ad'.block ∧ ad'.block < w23.heap.size) := Go.Lib.hid (fun ad' e => ⟨own_geI hrow ad'.block (by rw [e]; rfl), by have h1 := own_ltI hrow ad'.block (by rw [e]; rfl); have h2 := ho23.size; omega⟩); clear HB23 HB hrow hlx HO22 ho23
      go_wp2_with (first
        | (refine wpList_load_box rfl 28 _ rfl w.heap.size rfl (whL ⟨x.list.take p ++ x.list.drop (p + 1), x.now⟩ A22 c22) _ HB24.out Try.underlying28 rfl info_wh ?_)
        | (refine wpList_store_any rfl 28 _ _ rfl (w.heap.size + 1) 0 28 _ (whL ⟨x.list.take p ++ x.list.drop (p + 1), x.now⟩ A22 c22) _ rfl rfl rfl HZ.out info_wh (by show 0 + 2 ≤ 2; omega) (by simp [Value.oneCell']) ?_; intro wF hbF hoF; have HBF := Go.Lib.hid hbF; clear hbF))
      exact bodyPost_ret (v := whV ⟨x.list.take p ++ x.list.drop (p + 1), x.now⟩ A22 c22) (results_cell_row rfl _ _ (w.heap.size + 1) 28 _ _ _ rfl HBF.out Try.underlying28 rfl info_wh) rfl ⟨A22, c22, rfl, (HR.out.keepR (fun ad' e => hoF.block _ (by have := HNE.out ad' e; omega))), v23.trans (hoF.below (show w.heap.size ≤ w.heap.size + 1 by omega)), fun ad' e => ⟨Nat.le_trans y0.size (HNE.out ad' e).1, by have h1 := (HNE.out ad' e).2; have h2 := hoF.size; omega⟩⟩
  ·
    rw [if_pos (by rfl)]
    have cx := HB.out.cell 0 rfl; go_simp; clear cx
    refine hKc.out _ _ (hHeld) (fun hHeld => ?_)
    clear hKc Kc
    try simp only [Act.put, List.setIfInBounds_toArray, List.set_cons_zero, List.set_cons_succ]
    refine wpAnyH_take (i := 4) (oi := ⟨some 9, _, _, _, _, _⟩) (v := ?_) rfl (by kernel_rfl) (by kernel_rfl) (by kernel_rfl) (fun _ _ _ h => h) (Or.inl ⟨by rfl, ?_⟩) (by assumption) ?_
    rotate_left
    · intro w hSw; (try dsimp only at hSw); go_simp; (try with_reducible rfl)
    try simp only [Act.put, List.setIfInBounds_toArray, List.set_cons_zero, List.set_cons_succ]
    refine wpAnyH_ready (rs := [0, 7]) (by kernel_rfl) (by simp) (AllReadyH.cons (o := ⟨some 5, _, _, _, _, _⟩) rfl (fun Kc hKc => ?_) (AllReadyH.cons (o := ⟨some 12, _, _, _, _, _⟩) rfl (fun Kc hKc => ?_) AllReadyH.nil))
    ·
      go_simp
      have V20 : Hid (World.ownsRow (W.alloc (.cells #[] 63)).drew W.heap.size 63 2 (.slice (some ⟨W.heap.size, 0, none⟩) 0 0) 0 []) := Go.Lib.hid (World.ownsRow_made W #[] 0 (Nat.le_refl _) (by unfold maxLen; omega) (by simp)); have y20 : Below W.heap.size W (W.alloc (.cells #[] 63)).drew := below_drew ((Below.refl _ _).alloc (Nat.le_refl _) _); have HB := Go.Lib.hid (HW0.out.keep y20 hlt0); have HZ := Go.Lib.hid (HZ0.out.keep y20 hlt1); have v20 := y0.trans (y20.mono y0.size); generalize (W.alloc (.cells #[] 63)).drew = w20 at *; have z20 := y20.size
      refine hKc.out _ _ (v20) (fun hHeld => ?_)
      clear hKc Kc
      try simp only [Act.put, List.setIfInBounds_toArray, List.set_cons_zero, List.set_cons_succ]
      refine wpAnyH_ready (rs := [5, 7]) (by kernel_rfl) (by simp) (AllReadyH.cons (o := ⟨some 10, _, _, _, _, _⟩) rfl (fun Kc hKc => ?_) (AllReadyH.cons (o := ⟨some 12, _, _, _, _, _⟩) rfl (fun Kc hKc => ?_) AllReadyH.nil))
      ·
        rw [if_pos (by rfl)]
        refine step_appendI _ _ 26 rfl W.heap.size 63 i0 _ 2 16 Try.underlying26 hi hz0 hz1 hz2 rfl (by omega) (.slice (some ⟨W.heap.size, 0, none⟩) 0 0) 0 [] rfl V20.out ad p c ((x.list.take p).flatMap Al.L) rfl HLT.out (HFI.out w20 v20) (al_one _) (by unfold maxLen; omega) (by omega) z20 ?_; intro v21 w21 ho21 hg21 hat21; rw [Nat.zero_add, List.nil_append] at ho21; obtain ⟨A21, c21, rfl⟩ := own_slice ho21; have y21 := grownI (w0 := W) hg21 (fun g e => by rw [ownBlock_blk] at e; injection e with e; have e : W.heap.size = g := e; omega) z20; have HB := Go.Lib.hid (HB.out.keep y21 hlt0); have HZ := Go.Lib.hid (HZ.out.keep y21 hlt1); have v21 := v20.trans (y21.mono y0.size); have HO21 := Go.Lib.hid ho21; have z21 := Nat.le_trans z20 y21.size; clear ho21 hg21 hat21
        refine hKc.out _ _ (v21) (fun hHeld => ?_)
        clear hKc Kc
        try simp only [Act.put, List.setIfInBounds_toArray, List.set_cons_zero, List.set_cons_succ]
        refine wpAnyH_ready (rs := [7]) (by kernel_rfl) (by simp) (AllReadyH.cons (o := ⟨some 12, _, _, _, _, _⟩) rfl (fun Kc hKc => ?_) AllReadyH.nil)
        rw [if_pos (by rfl)]
        have cx := HB.out.cell 0 rfl; go_simp; clear cx
        refine hKc.out _ _ (hHeld) (fun hHeld => ?_)
        clear hKc Kc
        try simp only [Act.put, List.setIfInBounds_toArray, List.set_cons_zero, List.set_cons_succ]
        refine wpAnyH_take (i := 10) (oi := ⟨some 15, _, _, _, _, _⟩) (v := ?_) rfl (by kernel_rfl) (by kernel_rfl) (by kernel_rfl) (fun _ _ _ h => h) (Or.inl ⟨by rfl, ?_⟩) (by assumption) ?_
        rotate_left
        · intro w hSw; (try dsimp only at hSw); go_simp; (try with_reducible rfl)
        try simp only [Act.put, List.setIfInBounds_toArray, List.set_cons_zero, List.set_cons_succ]
        refine wpAnyH_ready (rs := [11]) (by kernel_rfl) (by simp) (AllReadyH.cons (o := ⟨some 16, _, _, _, _, _⟩) rfl (fun Kc hKc => ?_) AllReadyH.nil)
        rw [if_pos (by rfl)]
        (try rw [hif]); refine step_appendI _ _ 26 rfl W.heap.size 63 i0 _ 2 16 Try.underlying26 hi hz0 hz1 hz2 rfl (by omega) (.slice A21 p c21) p ((x.list.take p).flatMap Al.L) rfl HO21.out ad4 (x.list.length - (p + 1)) (c - (p + 1)) ((x.list.drop (p + 1)).flatMap Al.L) rfl HLD.out (HLA.out w21 v21) (al_one _) (by unfold maxLen; omega) (by omega) z21 ?_; intro v22 w22 ho22 hg22 hat22; obtain ⟨A22, c22, rfl⟩ := own_slice ho22; have y22 := grownI (w0 := W) hg22 (fun g e => by rw [ownBlock_blk] at e; exact own_geI HO21.out g e) z21; have HB := Go.Lib.hid (HB.out.keep y22 hlt0); have HZ := Go.Lib.hid (HZ.out.keep y22 hlt1); have v22 := v21.trans (y22.mono y0.size); have HO22 := Go.Lib.hid ho22; have z22 := Nat.le_trans z21 y22.size; clear ho22 hg22 hat22
        refine hKc.out _ _ (v22) (fun hHeld => ?_)
        clear hKc Kc
        try simp only [Act.put, List.setIfInBounds_toArray, List.set_cons_zero, List.set_cons_succ]
        refine wpAnyH_take (i := 12) (oi := ⟨some 17, _, _, _, _, _⟩) (v := ?_) rfl (by kernel_rfl) (by kernel_rfl) (by kernel_rfl) (fun _ _ _ h => h) (Or.inl ⟨by rfl, ?_⟩) (by assumption) ?_
        rotate_left
        · intro w hSw; (try dsimp only at hSw); go_simp; (try with_reducible rfl)
        try simp only [Act.put, List.setIfInBounds_toArray, List.set_cons_zero, List.set_cons_succ]
        refine wpAnyH_ready (rs := [13]) (by kernel_rfl) (by simp) (AllReadyH.cons (o := ⟨none, _, _, _, _, _⟩) rfl (fun Kc hKc => ?_) AllReadyH.nil)
        rw [if_pos (by rfl)]
        refine step_store_any 26 _ _ rfl w.heap.size 0 28 (whL x (some ad) c) [.slice A22 (p + (x.list.length - (p + 1))) c22] _ rfl rfl rfl HB.out info_sla (by show 0 + 1 ≤ 2; omega) (by simp [Value.oneCell']) ?_; intro w23 hb23 ho23; have HB23 := Go.Lib.hid hb23; have HZ := Go.Lib.hid (HZ.out.only ho23 (by omega)); have v23 := v22.trans (ho23.below (Nat.le_refl _)); clear hb23
        refine hKc.out _ _ (v23) (fun hHeld => ?_)
        clear hKc Kc
        try simp only [Act.put, List.setIfInBounds_toArray, List.set_cons_zero, List.set_cons_succ]
        refine wpAnyH_done (by kernel_rfl) ?_ _
        clear hHeld
        have hlx : p + (x.list.length - (p + 1)) = (x.list.take p ++ x.list.drop (p + 1)).length := by rw [List.length_append, List.length_take, List.length_drop]; omega
        have hrow := HO22.out
        rw [hlx] at hrow
        have HR : Hid (AlAt w23 (x.list.take p ++ x.list.drop (p + 1)) A22 c22) := Go.Lib.hid (AlAt.ofOwn rfl (own_keepA (w' := w23) (by rw [List.flatMap_append]; exact hrow) (fun g hg => ho23.block g (by have := own_geI hrow g hg; omega))))
        have HB24 : Hid (Bxo w23 w.heap.size 28 (whL ⟨x.list.take p ++ x.list.drop (p + 1), x.now⟩ A22 c22)) := Go.Lib.hid (by have q := HB23.out; rw [hlx] at q; exact q)
        have HNE : Hid (∀ ad', A22 = some ad' → W.heap.size ≤ ad'.block ∧ ad'.block < w23.heap.size) := Go.Lib.hid (fun ad' e => ⟨own_geI hrow ad'.block (by rw [e]; rfl), by have h1 := own_ltI hrow ad'.block (by rw [e]; rfl); have h2 := ho23.size; omega⟩); clear HB23 HB hrow hlx HO22 ho23
        go_wp2_with (first
          | (refine wpList_load_box rfl 28 _ rfl w.heap.size rfl (whL ⟨x.list.take p ++ x.list.drop (p + 1), x.now⟩ A22 c22) _ HB24.out Try.underlying28 rfl info_wh ?_)
          | (refine wpList_store_any rfl 28 _ _ rfl (w.heap.size + 1) 0 28 _ (whL ⟨x.list.take p ++ x.list.drop (p + 1), x.now⟩ A22 c22) _ rfl rfl rfl HZ.out info_wh (by show 0 + 2 ≤ 2; omega) (by simp [Value.oneCell']) ?_; intro wF hbF hoF; have HBF := Go.Lib.hid hbF; clear hbF))
        exact bodyPost_ret (v := whV ⟨x.list.take p ++ x.list.drop (p + 1), x.now⟩ A22 c22) (results_cell_row rfl _ _ (w.heap.size + 1) 28 _ _ _ rfl HBF.out Try.underlying28 rfl info_wh) rfl ⟨A22, c22, rfl, (HR.out.keepR (fun ad' e => hoF.block _ (by have := HNE.out ad' e; omega))), v23.trans (hoF.below (show w.heap.size ≤ w.heap.size + 1 by omega)), fun ad' e => ⟨Nat.le_trans y0.size (HNE.out ad' e).1, by have h1 := (HNE.out ad' e).2; have h2 := hoF.size; omega⟩⟩
      ·
        rw [if_pos (by rfl)]
        have cx := HB.out.cell 0 rfl; go_simp; clear cx
        refine hKc.out _ _ (hHeld) (fun hHeld => ?_)
        clear hKc Kc
        try simp only [Act.put, List.setIfInBounds_toArray, List.set_cons_zero, List.set_cons_succ]
        refine wpAnyH_take (i := 10) (oi := ⟨some 15, _, _, _, _, _⟩) (v := ?_) rfl (by kernel_rfl) (by kernel_rfl) (by kernel_rfl) (fun _ _ _ h => h) (Or.inl ⟨by rfl, ?_⟩) (by assumption) ?_
        rotate_left
        · intro w hSw; (try dsimp only at hSw); go_simp; (try with_reducible rfl)
        try simp only [Act.put, List.setIfInBounds_toArray, List.set_cons_zero, List.set_cons_succ]
        refine wpAnyH_ready (rs := [5]) (by kernel_rfl) (by simp) (AllReadyH.cons (o := ⟨some 10, _, _, _, _, _⟩) rfl (fun Kc hKc => ?_) AllReadyH.nil)
        rw [if_pos (by rfl)]
        refine step_appendI _ _ 26 rfl W.heap.size 63 i0 _ 2 16 Try.underlying26 hi hz0 hz1 hz2 rfl (by omega) (.slice (some ⟨W.heap.size, 0, none⟩) 0 0) 0 [] rfl V20.out ad p c ((x.list.take p).flatMap Al.L) rfl HLT.out (HFI.out w20 v20) (al_one _) (by unfold maxLen; omega) (by omega) z20 ?_; intro v21 w21 ho21 hg21 hat21; rw [Nat.zero_add, List.nil_append] at ho21; obtain ⟨A21, c21, rfl⟩ := own_slice ho21; have y21 := grownI (w0 := W) hg21 (fun g e => by rw [ownBlock_blk] at e; injection e with e; have e : W.heap.size = g := e; omega) z20; have HB := Go.Lib.hid (HB.out.keep y21 hlt0); have HZ := Go.Lib.hid (HZ.out.keep y21 hlt1); have v21 := v20.trans (y21.mono y0.size); have HO21 := Go.Lib.hid ho21; have z21 := Nat.le_trans z20 y21.size; clear ho21 hg21 hat21
        refine hKc.out _ _ (v21) (fun hHeld => ?_)
        clear hKc Kc
        try simp only [Act.put, List.setIfInBounds_toArray, List.set_cons_zero, List.set_cons_succ]
        refine wpAnyH_ready (rs := [11]) (by kernel_rfl) (by simp) (AllReadyH.cons (o := ⟨some 16, _, _, _, _, _⟩) rfl (fun Kc hKc => ?_) AllReadyH.nil)
        rw [if_pos (by rfl)]
        (try rw [hif]); refine step_appendI _ _ 26 rfl W.heap.size 63 i0 _ 2 16 Try.underlying26 hi hz0 hz1 hz2 rfl (by omega) (.slice A21 p c21) p ((x.list.take p).flatMap Al.L) rfl HO21.out ad4 (x.list.length - (p + 1)) (c - (p + 1)) ((x.list.drop (p + 1)).flatMap Al.L) rfl HLD.out (HLA.out w21 v21) (al_one _) (by unfold maxLen; omega) (by omega) z21 ?_; intro v22 w22 ho22 hg22 hat22; obtain ⟨A22, c22, rfl⟩ := own_slice ho22; have y22 := grownI (w0 := W) hg22 (fun g e => by rw [ownBlock_blk] at e; exact own_geI HO21.out g e) z21; have HB := Go.Lib.hid (HB.out.keep y22 hlt0); have HZ := Go.Lib.hid (HZ.out.keep y22 hlt1); have v22 := v21.trans (y22.mono y0.size); have HO22 := Go.Lib.hid ho22; have z22 := Nat.le_trans z21 y22.size; clear ho22 hg22 hat22
        refine hKc.out _ _ (v22) (fun hHeld => ?_)
        clear hKc Kc
        try simp only [Act.put, List.setIfInBounds_toArray, List.set_cons_zero, List.set_cons_succ]
        refine wpAnyH_take (i := 12) (oi := ⟨some 17, _, _, _, _, _⟩) (v := ?_) rfl (by kernel_rfl) (by kernel_rfl) (by kernel_rfl) (fun _ _ _ h => h) (Or.inl ⟨by rfl, ?_⟩) (by assumption) ?_
        rotate_left
        · intro w hSw; (try dsimp only at hSw); go_simp; (try with_reducible rfl)
        try simp only [Act.put, List.setIfInBounds_toArray, List.set_cons_zero, List.set_cons_succ]
        refine wpAnyH_ready (rs := [13]) (by kernel_rfl) (by simp) (AllReadyH.cons (o := ⟨none, _, _, _, _, _⟩) rfl (fun Kc hKc => ?_) AllReadyH.nil)
        rw [if_pos (by rfl)]
        refine step_store_any 26 _ _ rfl w.heap.size 0 28 (whL x (some ad) c) [.slice A22 (p + (x.list.length - (p + 1))) c22] _ rfl rfl rfl HB.out info_sla (by show 0 + 1 ≤ 2; omega) (by simp [Value.oneCell']) ?_; intro w23 hb23 ho23; have HB23 := Go.Lib.hid hb23; have HZ := Go.Lib.hid (HZ.out.only ho23 (by omega)); have v23 := v22.trans (ho23.below (Nat.le_refl _)); clear hb23
        refine hKc.out _ _ (v23) (fun hHeld => ?_)
        clear hKc Kc
        try simp only [Act.put, List.setIfInBounds_toArray, List.set_cons_zero, List.set_cons_succ]
        refine wpAnyH_done (by kernel_rfl) ?_ _
        clear hHeld
        have hlx : p + (x.list.length - (p + 1)) = (x.list.take p ++ x.list.drop (p + 1)).length := by rw [List.length_append, List.length_take, List.length_drop]; omega
        have hrow := HO22.out
        rw [hlx] at hrow
        have HR : Hid (AlAt w23 (x.list.take p ++ x.list.drop (p + 1)) A22 c22) := Go.Lib.hid (AlAt.ofOwn rfl (own_keepA (w' := w23) (by rw [List.flatMap_append]; exact hrow) (fun g hg => ho23.block g (by have := own_geI hrow g hg; omega))))
        have HB24 : Hid (Bxo w23 w.heap.size 28 (whL ⟨x.list.take p ++ x.list.drop (p + 1), x.now⟩ A22 c22)) := Go.Lib.hid (by have q := HB23.out; rw [hlx] at q; exact q)
        have HNE : Hid (∀ ad', A22 = some ad' → W.heap.size ≤ ad'.block ∧ ad'.block < w23.heap.size) := Go.Lib.hid (fun ad' e => ⟨own_geI hrow ad'.block (by rw [e]; rfl), by have h1 := own_ltI hrow ad'.block (by rw [e]; rfl); have h2 := ho23.size; omega⟩); clear HB23 HB hrow hlx HO22 ho23
        go_wp2_with (first
          | (refine wpList_load_box rfl 28 _ rfl w.heap.size rfl (whL ⟨x.list.take p ++ x.list.drop (p + 1), x.now⟩ A22 c22) _ HB24.out Try.underlying28 rfl info_wh ?_)
          | (refine wpList_store_any rfl 28 _ _ rfl (w.heap.size + 1) 0 28 _ (whL ⟨x.list.take p ++ x.list.drop (p + 1), x.now⟩ A22 c22) _ rfl rfl rfl HZ.out info_wh (by show 0 + 2 ≤ 2; omega) (by simp [Value.oneCell']) ?_; intro wF hbF hoF; have HBF := Go.Lib.hid hbF; clear hbF))
        exact bodyPost_ret (v := whV ⟨x.list.take p ++ x.list.drop (p + 1), x.now⟩ A22 c22) (results_cell_row rfl _ _ (w.heap.size + 1) 28 _ _ _ rfl HBF.out Try.underlying28 rfl info_wh) rfl ⟨A22, c22, rfl, (HR.out.keepR (fun ad' e => hoF.block _ (by have := HNE.out ad' e; omega))), v23.trans (hoF.below (show w.heap.size ≤ w.heap.size + 1 by omega)), fun ad' e => ⟨Nat.le_trans y0.size (HNE.out ad' e).1, by have h1 := (HNE.out ad' e).2; have h2 := hoF.size; omega⟩⟩
    ·
      rw [if_pos (by rfl)]
      have cx := HB.out.cell 0 rfl; go_simp; clear cx
      refine hKc.out _ _ (hHeld) (fun hHeld => ?_)
      clear hKc Kc
      try simp only [Act.put, List.setIfInBounds_toArray, List.set_cons_zero, List.set_cons_succ]
      refine wpAnyH_take (i := 10) (oi := ⟨some 15, _, _, _, _, _⟩) (v := ?_) rfl (by kernel_rfl) (by kernel_rfl) (by kernel_rfl) (fun _ _ _ h => h) (Or.inl ⟨by rfl, ?_⟩) (by assumption) ?_
      rotate_left
      · intro w hSw; (try dsimp only at hSw); go_simp; (try with_reducible rfl)
      try simp only [Act.put, List.setIfInBounds_toArray, List.set_cons_zero, List.set_cons_succ]
      refine wpAnyH_ready (rs := [0]) (by kernel_rfl) (by simp) (AllReadyH.cons (o := ⟨some 5, _, _, _, _, _⟩) rfl (fun Kc hKc => ?_) AllReadyH.nil)
      go_simp
      have V20 : Hid (World.ownsRow (W.alloc (.cells #[] 63)).drew W.heap.size 63 2 (.slice (some ⟨W.heap.size, 0, none⟩) 0 0) 0 []) := Go.Lib.hid (World.ownsRow_made W #[] 0 (Nat.le_refl _) (by unfold maxLen; omega) (by simp)); have y20 : Below W.heap.size W (W.alloc (.cells #[] 63)).drew := below_drew ((Below.refl _ _).alloc (Nat.le_refl _) _); have HB := Go.Lib.hid (HW0.out.keep y20 hlt0); have HZ := Go.Lib.hid (HZ0.out.keep y20 hlt1); have v20 := y0.trans (y20.mono y0.size); generalize (W.alloc (.cells #[] 63)).drew = w20 at *; have z20 := y20.size
      refine hKc.out _ _ (v20) (fun hHeld => ?_)
      clear hKc Kc
      try simp only [Act.put, List.setIfInBounds_toArray, List.set_cons_zero, List.set_cons_succ]
      refine wpAnyH_ready (rs := [5]) (by kernel_rfl) (by simp) (AllReadyH.cons (o := ⟨some 10, _, _, _, _, _⟩) rfl (fun Kc hKc => ?_) AllReadyH.nil)
      rw [if_pos (by rfl)]
      refine step_appendI _ _ 26 rfl W.heap.size 63 i0 _ 2 16 Try.underlying26 hi hz0 hz1 hz2 rfl (by omega) (.slice (some ⟨W.heap.size, 0, none⟩) 0 0) 0 [] rfl V20.out ad p c ((x.list.take p).flatMap Al.L) rfl HLT.out (HFI.out w20 v20) (al_one _) (by unfold maxLen; omega) (by omega) z20 ?_; intro v21 w21 ho21 hg21 hat21; rw [Nat.zero_add, List.nil_append] at ho21; obtain ⟨A21, c21, rfl⟩ := own_slice ho21; have y21 := grownI (w0 := W) hg21 (fun g e => by rw [ownBlock_blk] at e; injection e with e; have e : W.heap.size = g := e; omega) z20; have HB := Go.Lib.hid (HB.out.keep y21 hlt0); have HZ := Go.Lib.hid (HZ.out.keep y21 hlt1); have v21 := v20.trans (y21.mono y0.size); have HO21 := Go.Lib.hid ho21; have z21 := Nat.le_trans z20 y21.size; clear ho21 hg21 hat21
      refine hKc.out _ _ (v21) (fun hHeld => ?_)
      clear hKc Kc
      try simp only [Act.put, List.setIfInBounds_toArray, List.set_cons_zero, List.set_cons_succ]
      refine wpAnyH_ready (rs := [11]) (by kernel_rfl) (by simp) (AllReadyH.cons (o := ⟨some 16, _, _, _, _, _⟩) rfl (fun Kc hKc => ?_) AllReadyH.nil)
      rw [if_pos (by rfl)]
      (try rw [hif]); refine step_appendI _ _ 26 rfl W.heap.size 63 i0 _ 2 16 Try.underlying26 hi hz0 hz1 hz2 rfl (by omega) (.slice A21 p c21) p ((x.list.take p).flatMap Al.L) rfl HO21.out ad4 (x.list.length - (p + 1)) (c - (p + 1)) ((x.list.drop (p + 1)).flatMap Al.L) rfl HLD.out (HLA.out w21 v21) (al_one _) (by unfold maxLen; omega) (by omega) z21 ?_; intro v22 w22 ho22 hg22 hat22; obtain ⟨A22, c22, rfl⟩ := own_slice ho22; have y22 := grownI (w0 := W) hg22 (fun g e => by rw [ownBlock_blk] at e; exact own_geI HO21.out g e) z21; have HB := Go.Lib.hid (HB.out.keep y22 hlt0); have HZ := Go.Lib.hid (HZ.out.keep y22 hlt1); have v22 := v21.trans (y22.mono y0.size); have HO22 := Go.Lib.hid ho22; have z22 := Nat.le_trans z21 y22.size; clear ho22 hg22 hat22
      refine hKc.out _ _ (v22) (fun hHeld => ?_)
      clear hKc Kc
      try simp only [Act.put, List.setIfInBounds_toArray, List.set_cons_zero, List.set_cons_succ]
      refine wpAnyH_take (i := 12) (oi := ⟨some 17, _, _, _, _, _⟩) (v := ?_) rfl (by kernel_rfl) (by kernel_rfl) (by kernel_rfl) (fun _ _ _ h => h) (Or.inl ⟨by rfl, ?_⟩) (by assumption) ?_
      rotate_left
      · intro w hSw; (try dsimp only at hSw); go_simp; (try with_reducible rfl)
      try simp only [Act.put, List.setIfInBounds_toArray, List.set_cons_zero, List.set_cons_succ]
      refine wpAnyH_ready (rs := [13]) (by kernel_rfl) (by simp) (AllReadyH.cons (o := ⟨none, _, _, _, _, _⟩) rfl (fun Kc hKc => ?_) AllReadyH.nil)
      rw [if_pos (by rfl)]
      refine step_store_any 26 _ _ rfl w.heap.size 0 28 (whL x (some ad) c) [.slice A22 (p + (x.list.length - (p + 1))) c22] _ rfl rfl rfl HB.out info_sla (by show 0 + 1 ≤ 2; omega) (by simp [Value.oneCell']) ?_; intro w23 hb23 ho23; have HB23 := Go.Lib.hid hb23; have HZ := Go.Lib.hid (HZ.out.only ho23 (by omega)); have v23 := v22.trans (ho23.below (Nat.le_refl _)); clear hb23
      refine hKc.out _ _ (v23) (fun hHeld => ?_)
      clear hKc Kc
      try simp only [Act.put, List.setIfInBounds_toArray, List.set_cons_zero, List.set_cons_succ]
      refine wpAnyH_done (by kernel_rfl) ?_ _
      clear hHeld
      have hlx : p + (x.list.length - (p + 1)) = (x.list.take p ++ x.list.drop (p + 1)).length := by rw [List.length_append, List.length_take, List.length_drop]; omega
      have hrow := HO22.out
      rw [hlx] at hrow
      have HR : Hid (AlAt w23 (x.list.take p ++ x.list.drop (p + 1)) A22 c22) := Go.Lib.hid (AlAt.ofOwn rfl (own_keepA (w' := w23) (by rw [List.flatMap_append]; exact hrow) (fun g hg => ho23.block g (by have := own_geI hrow g hg; omega))))
      have HB24 : Hid (Bxo w23 w.heap.size 28 (whL ⟨x.list.take p ++ x.list.drop (p + 1), x.now⟩ A22 c22)) := Go.Lib.hid (by have q := HB23.out; rw [hlx] at q; exact q)
      have HNE : Hid (∀ ad', A22 = some ad' → W.heap.size ≤ ad'.block ∧ ad'.block < w23.heap.size) := Go.Lib.hid (fun ad' e => ⟨own_geI hrow ad'.block (by rw [e]; rfl), by have h1 := own_ltI hrow ad'.block (by rw [e]; rfl); have h2 := ho23.size; omega⟩); clear HB23 HB hrow hlx HO22 ho23
      go_wp2_with (first
        | (refine wpList_load_box rfl 28 _ rfl w.heap.size rfl (whL ⟨x.list.take p ++ x.list.drop (p + 1), x.now⟩ A22 c22) _ HB24.out Try.underlying28 rfl info_wh ?_)
        | (refine wpList_store_any rfl 28 _ _ rfl (w.heap.size + 1) 0 28 _ (whL ⟨x.list.take p ++ x.list.drop (p + 1), x.now⟩ A22 c22) _ rfl rfl rfl HZ.out info_wh (by show 0 + 2 ≤ 2; omega) (by simp [Value.oneCell']) ?_; intro wF hbF hoF; have HBF := Go.Lib.hid hbF; clear hbF))
      exact bodyPost_ret (v := whV ⟨x.list.take p ++ x.list.drop (p + 1), x.now⟩ A22 c22) (results_cell_row rfl _ _ (w.heap.size + 1) 28 _ _ _ rfl HBF.out Try.underlying28 rfl info_wh) rfl ⟨A22, c22, rfl, (HR.out.keepR (fun ad' e => hoF.block _ (by have := HNE.out ad' e; omega))), v23.trans (hoF.below (show w.heap.size ≤ w.heap.size + 1 by omega)), fun ad' e => ⟨Nat.le_trans y0.size (HNE.out ad' e).1, by have h1 := (HNE.out ad' e).2; have h2 := hoF.size; omega⟩⟩
  ·
    rw [if_pos (by rfl)]
    have cx := HB.out.cell 0 rfl; go_simp; clear cx
    refine hKc.out _ _ (hHeld) (fun hHeld => ?_)
    clear hKc Kc
    try simp only [Act.put, List.setIfInBounds_toArray, List.set_cons_zero, List.set_cons_succ]
    refine wpAnyH_take (i := 10) (oi := ⟨some 15, _, _, _, _, _⟩) (v := ?_) rfl (by kernel_rfl) (by kernel_rfl) (by kernel_rfl) (fun _ _ _ h => h) (Or.inl ⟨by rfl, ?_⟩) (by assumption) ?_
    rotate_left
    · intro w hSw; (try dsimp only at hSw); go_simp; (try with_reducible rfl)
    try simp only [Act.put, List.setIfInBounds_toArray, List.set_cons_zero, List.set_cons_succ]
    refine wpAnyH_ready (rs := [0, 2]) (by kernel_rfl) (by simp) (AllReadyH.cons (o := ⟨some 5, _, _, _, _, _⟩) rfl (fun Kc hKc => ?_) (AllReadyH.cons (o := ⟨some 7, _, _, _, _, _⟩) rfl (fun Kc hKc => ?_) AllReadyH.nil))
    ·
      go_simp
      have V20 : Hid (World.ownsRow (W.alloc (.cells #[] 63)).drew W.heap.size 63 2 (.slice (some ⟨W.heap.size, 0, none⟩) 0 0) 0 []) := Go.Lib.hid (World.ownsRow_made W #[] 0 (Nat.le_refl _) (by unfold maxLen; omega) (by simp)); have y20 : Below W.heap.size W (W.alloc (.cells #[] 63)).drew := below_drew ((Below.refl _ _).alloc (Nat.le_refl _) _); have HB := Go.Lib.hid (HW0.out.keep y20 hlt0); have HZ := Go.Lib.hid (HZ0.out.keep y20 hlt1); have v20 := y0.trans (y20.mono y0.size); generalize (W.alloc (.cells #[] 63)).drew = w20 at *; have z20 := y20.size
      refine hKc.out _ _ (v20) (fun hHeld => ?_)
      clear hKc Kc
      try simp only [Act.put, List.setIfInBounds_toArray, List.set_cons_zero, List.set_cons_succ]
      refine wpAnyH_ready (rs := [2]) (by kernel_rfl) (by simp) (AllReadyH.cons (o := ⟨some 7, _, _, _, _, _⟩) rfl (fun Kc hKc => ?_) AllReadyH.nil)
      rw [if_pos (by rfl)]
      have cx := HB.out.cell 0 rfl; go_simp; clear cx
      refine hKc.out _ _ (hHeld) (fun hHeld => ?_)
      clear hKc Kc
      try simp only [Act.put, List.setIfInBounds_toArray, List.set_cons_zero, List.set_cons_succ]
      refine wpAnyH_take (i := 4) (oi := ⟨some 9, _, _, _, _, _⟩) (v := ?_) rfl (by kernel_rfl) (by kernel_rfl) (by kernel_rfl) (fun _ _ _ h => h) (Or.inl ⟨by rfl, ?_⟩) (by assumption) ?_
      rotate_left
      · intro w hSw; (try dsimp only at hSw); go_simp; (try with_reducible rfl)
      try simp only [Act.put, List.setIfInBounds_toArray, List.set_cons_zero, List.set_cons_succ]
      refine wpAnyH_ready (rs := [5]) (by kernel_rfl) (by simp) (AllReadyH.cons (o := ⟨some 10, _, _, _, _, _⟩) rfl (fun Kc hKc => ?_) AllReadyH.nil)
      rw [if_pos (by rfl)]
      refine step_appendI _ _ 26 rfl W.heap.size 63 i0 _ 2 16 Try.underlying26 hi hz0 hz1 hz2 rfl (by omega) (.slice (some ⟨W.heap.size, 0, none⟩) 0 0) 0 [] rfl V20.out ad p c ((x.list.take p).flatMap Al.L) rfl HLT.out (HFI.out w20 v20) (al_one _) (by unfold maxLen; omega) (by omega) z20 ?_; intro v21 w21 ho21 hg21 hat21; rw [Nat.zero_add, List.nil_append] at ho21; obtain ⟨A21, c21, rfl⟩ := own_slice ho21; have y21 := grownI (w0 := W) hg21 (fun g e => by rw [ownBlock_blk] at e; injection e with e; have e : W.heap.size = g := e; omega) z20; have HB := Go.Lib.hid (HB.out.keep y21 hlt0); have HZ := Go.Lib.hid (HZ.out.keep y21 hlt1); have v21 := v20.trans (y21.mono y0.size); have HO21 := Go.Lib.hid ho21; have z21 := Nat.le_trans z20 y21.size; clear ho21 hg21 hat21
      refine hKc.out _ _ (v21) (fun hHeld => ?_)
      clear hKc Kc
      try simp only [Act.put, List.setIfInBounds_toArray, List.set_cons_zero, List.set_cons_succ]
      refine wpAnyH_ready (rs := [11]) (by kernel_rfl) (by simp) (AllReadyH.cons (o := ⟨some 16, _, _, _, _, _⟩) rfl (fun Kc hKc => ?_) AllReadyH.nil)
      rw [if_pos (by rfl)]
      (try rw [hif]); refine step_appendI _ _ 26 rfl W.heap.size 63 i0 _ 2 16 Try.underlying26 hi hz0 hz1 hz2 rfl (by omega) (.slice A21 p c21) p ((x.list.take p).flatMap Al.L) rfl HO21.out ad4 (x.list.length - (p + 1)) (c - (p + 1)) ((x.list.drop (p + 1)).flatMap Al.L) rfl HLD.out (HLA.out w21 v21) (al_one _) (by unfold maxLen; omega) (by omega) z21 ?_; intro v22 w22 ho22 hg22 hat22; obtain ⟨A22, c22, rfl⟩ := own_slice ho22; have y22 := grownI (w0 := W) hg22 (fun g e => by rw [ownBlock_blk] at e; exact own_geI HO21.out g e) z21; have HB := Go.Lib.hid (HB.out.keep y22 hlt0); have HZ := Go.Lib.hid (HZ.out.keep y22 hlt1); have v22 := v21.trans (y22.mono y0.size); have HO22 := Go.Lib.hid ho22; have z22 := Nat.le_trans z21 y22.size; clear ho22 hg22 hat22
      refine hKc.out _ _ (v22) (fun hHeld => ?_)
      clear hKc Kc
      try simp only [Act.put, List.setIfInBounds_toArray, List.set_cons_zero, List.set_cons_succ]
      refine wpAnyH_take (i := 12) (oi := ⟨some 17, _, _, _, _, _⟩) (v := ?_) rfl (by kernel_rfl) (by kernel_rfl) (by kernel_rfl) (fun _ _ _ h => h) (Or.inl ⟨by rfl, ?_⟩) (by assumption) ?_
      rotate_left
      · intro w hSw; (try dsimp only at hSw); go_simp; (try with_reducible rfl)
      try simp only [Act.put, List.setIfInBounds_toArray, List.set_cons_zero, List.set_cons_succ]
      refine wpAnyH_ready (rs := [13]) (by kernel_rfl) (by simp) (AllReadyH.cons (o := ⟨none, _, _, _, _, _⟩) rfl (fun Kc hKc => ?_) AllReadyH.nil)
      rw [if_pos (by rfl)]
      refine step_store_any 26 _ _ rfl w.heap.size 0 28 (whL x (some ad) c) [.slice A22 (p + (x.list.length - (p + 1))) c22] _ rfl rfl rfl HB.out info_sla (by show 0 + 1 ≤ 2; omega) (by simp [Value.oneCell']) ?_; intro w23 hb23 ho23; have HB23 := Go.Lib.hid hb23; have HZ := Go.Lib.hid (HZ.out.only ho23 (by omega)); have v23 := v22.trans (ho23.below (Nat.le_refl _)); clear hb23
      refine hKc.out _ _ (v23) (fun hHeld => ?_)
      clear hKc Kc
      try simp only [Act.put, List.setIfInBounds_toArray, List.set_cons_zero, List.set_cons_succ]
      refine wpAnyH_done (by kernel_rfl) ?_ _
      clear hHeld
      have hlx : p + (x.list.length - (p + 1)) = (x.list.take p ++ x.list.drop (p + 1)).length := by rw [List.length_append, List.length_take, List.length_drop]; omega
      have hrow := HO22.out
      rw [hlx] at hrow
      have HR : Hid (AlAt w23 (x.list.take p ++ x.list.drop (p + 1)) A22 c22) := Go.Lib.hid (AlAt.ofOwn rfl (own_keepA (w' := w23) (by rw [List.flatMap_append]; exact hrow) (fun g hg => ho23.block g (by have := own_geI hrow g hg; omega))))
      have HB24 : Hid (Bxo w23 w.heap.size 28 (whL ⟨x.list.take p ++ x.list.drop (p + 1), x.now⟩ A22 c22)) := Go.Lib.hid (by have q := HB23.out; rw [hlx] at q; exact q)
      have HNE : Hid (∀ ad', A22 = some ad' → W.heap.size ≤ ad'.block ∧ ad'.block < w23.heap.size) := Go.Lib.hid (fun ad' e => ⟨own_geI hrow ad'.block (by rw [e]; rfl), by have h1 := own_ltI hrow ad'.block (by rw [e]; rfl); have h2 := ho23.size; omega⟩); clear HB23 HB hrow hlx HO22 ho23
      go_wp2_with (first
        | (refine wpList_load_box rfl 28 _ rfl w.heap.size rfl (whL ⟨x.list.take p ++ x.list.drop (p + 1), x.now⟩ A22 c22) _ HB24.out Try.underlying28 rfl info_wh ?_)
        | (refine wpList_store_any rfl 28 _ _ rfl (w.heap.size + 1) 0 28 _ (whL ⟨x.list.take p ++ x.list.drop (p + 1), x.now⟩ A22 c22) _ rfl rfl rfl HZ.out info_wh (by show 0 + 2 ≤ 2; omega) (by simp [Value.oneCell']) ?_; intro wF hbF hoF; have HBF := Go.Lib.hid hbF; clear hbF))
      exact bodyPost_ret (v := whV ⟨x.list.take p ++ x.list.drop (p + 1), x.now⟩ A22 c22) (results_cell_row rfl _ _ (w.heap.size + 1) 28 _ _ _ rfl HBF.out Try.underlying28 rfl info_wh) rfl ⟨A22, c22, rfl, (HR.out.keepR (fun ad' e => hoF.block _ (by have := HNE.out ad' e; omega))), v23.trans (hoF.below (show w.heap.size ≤ w.heap.size + 1 by omega)), fun ad' e => ⟨Nat.le_trans y0.size (HNE.out ad' e).1, by have h1 := (HNE.out ad' e).2; have h2 := hoF.size; omega⟩⟩
    ·
      rw [if_pos (by rfl)]
      have cx := HB.out.cell 0 rfl; go_simp; clear cx
      refine hKc.out _ _ (hHeld) (fun hHeld => ?_)
      clear hKc Kc
      try simp only [Act.put, List.setIfInBounds_toArray, List.set_cons_zero, List.set_cons_succ]
      refine wpAnyH_take (i := 4) (oi := ⟨some 9, _, _, _, _, _⟩) (v := ?_) rfl (by kernel_rfl) (by kernel_rfl) (by kernel_rfl) (fun _ _ _ h => h) (Or.inl ⟨by rfl, ?_⟩) (by assumption) ?_
      rotate_left
      · intro w hSw; (try dsimp only at hSw); go_simp; (try with_reducible rfl)
      try simp only [Act.put, List.setIfInBounds_toArray, List.set_cons_zero, List.set_cons_succ]
      refine wpAnyH_ready (rs := [0]) (by kernel_rfl) (by simp) (AllReadyH.cons (o := ⟨some 5, _, _, _, _, _⟩) rfl (fun Kc hKc => ?_) AllReadyH.nil)
      go_simp
      have V20 : Hid (World.ownsRow (W.alloc (.cells #[] 63)).drew W.heap.size 63 2 (.slice (some ⟨W.heap.size, 0, none⟩) 0 0) 0 []) := Go.Lib.hid (World.ownsRow_made W #[] 0 (Nat.le_refl _) (by unfold maxLen; omega) (by simp)); have y20 : Below W.heap.size W (W.alloc (.cells #[] 63)).drew := below_drew ((Below.refl _ _).alloc (Nat.le_refl _) _); have HB := Go.Lib.hid (HW0.out.keep y20 hlt0); have HZ := Go.Lib.hid (HZ0.out.keep y20 hlt1); have v20 := y0.trans (y20.mono y0.size); generalize (W.alloc (.cells #[] 63)).drew = w20 at *; have z20 := y20.size
      refine hKc.out _ _ (v20) (fun hHeld => ?_)
      clear hKc Kc
      try simp only [Act.put, List.setIfInBounds_toArray, List.set_cons_zero, List.set_cons_succ]
      refine wpAnyH_ready (rs := [5]) (by kernel_rfl) (by simp) (AllReadyH.cons (o := ⟨some 10, _, _, _, _, _⟩) rfl (fun Kc hKc => ?_) AllReadyH.nil)
      rw [if_pos (by rfl)]
      refine step_appendI _ _ 26 rfl W.heap.size 63 i0 _ 2 16 Try.underlying26 hi hz0 hz1 hz2 rfl (by omega) (.slice (some ⟨W.heap.size, 0, none⟩) 0 0) 0 [] rfl V20.out ad p c ((x.list.take p).flatMap Al.L) rfl HLT.out (HFI.out w20 v20) (al_one _) (by unfold maxLen; omega) (by omega) z20 ?_; intro v21 w21 ho21 hg21 hat21; rw [Nat.zero_add, List.nil_append] at ho21; obtain ⟨A21, c21, rfl⟩ := own_slice ho21; have y21 := grownI (w0 := W) hg21 (fun g e => by rw [ownBlock_blk] at e; injection e with e; have e : W.heap.size = g := e; omega) z20; have HB := Go.Lib.hid (HB.out.keep y21 hlt0); have HZ := Go.Lib.hid (HZ.out.keep y21 hlt1); have v21 := v20.trans (y21.mono y0.size); have HO21 := Go.Lib.hid ho21; have z21 := Nat.le_trans z20 y21.size; clear ho21 hg21 hat21
      refine hKc.out _ _ (v21) (fun hHeld => ?_)
      clear hKc Kc
      try simp only [Act.put, List.setIfInBounds_toArray, List.set_cons_zero, List.set_cons_succ]
      refine wpAnyH_ready (rs := [11]) (by kernel_rfl) (by simp) (AllReadyH.cons (o := ⟨some 16, _, _, _, _, _⟩) rfl (fun Kc hKc => ?_) AllReadyH.nil)
      rw [if_pos (by rfl)]
      (try rw [hif]); refine step_appendI _ _ 26 rfl W.heap.size 63 i0 _ 2 16 Try.underlying26 hi hz0 hz1 hz2 rfl (by omega) (.slice A21 p c21) p ((x.list.take p).flatMap Al.L) rfl HO21.out ad4 (x.list.length - (p + 1)) (c - (p + 1)) ((x.list.drop (p + 1)).flatMap Al.L) rfl HLD.out (HLA.out w21 v21) (al_one _) (by unfold maxLen; omega) (by omega) z21 ?_; intro v22 w22 ho22 hg22 hat22; obtain ⟨A22, c22, rfl⟩ := own_slice ho22; have y22 := grownI (w0 := W) hg22 (fun g e => by rw [ownBlock_blk] at e; exact own_geI HO21.out g e) z21; have HB := Go.Lib.hid (HB.out.keep y22 hlt0); have HZ := Go.Lib.hid (HZ.out.keep y22 hlt1); have v22 := v21.trans (y22.mono y0.size); have HO22 := Go.Lib.hid ho22; have z22 := Nat.le_trans z21 y22.size; clear ho22 hg22 hat22
      refine hKc.out _ _ (v22) (fun hHeld => ?_)
      clear hKc Kc
      try simp only [Act.put, List.setIfInBounds_toArray, List.set_cons_zero, List.set_cons_succ]
      refine wpAnyH_take (i := 12) (oi := ⟨some 17, _, _, _, _, _⟩) (v := ?_) rfl (by kernel_rfl) (by kernel_rfl) (by kernel_rfl) (fun _ _ _ h => h) (Or.inl ⟨by rfl, ?_⟩) (by assumption) ?_
      rotate_left
      · intro w hSw; (try dsimp only at hSw); go_simp; (try with_reducible rfl)
      try simp only [Act.put, List.setIfInBounds_toArray, List.set_cons_zero, List.set_cons_succ]
      refine wpAnyH_ready (rs := [13]) (by kernel_rfl) (by simp) (AllReadyH.cons (o := ⟨none, _, _, _, _, _⟩) rfl (fun Kc hKc => ?_) AllReadyH.nil)
      rw [if_pos (by rfl)]
      refine step_store_any 26 _ _ rfl w.heap.size 0 28 (whL x (some ad) c) [.slice A22 (p + (x.list.length - (p + 1))) c22] _ rfl rfl rfl HB.out info_sla (by show 0 + 1 ≤ 2; omega) (by simp [Value.oneCell']) ?_; intro w23 hb23 ho23; have HB23 := Go.Lib.hid hb23; have HZ := Go.Lib.hid (HZ.out.only ho23 (by omega)); have v23 := v22.trans (ho23.below (Nat.le_refl _)); clear hb23
      refine hKc.out _ _ (v23) (fun hHeld => ?_)
      clear hKc Kc
      try simp only [Act.put, List.setIfInBounds_toArray, List.set_cons_zero, List.set_cons_succ]
      refine wpAnyH_done (by kernel_rfl) ?_ _
      clear hHeld
      have hlx : p + (x.list.length - (p + 1)) = (x.list.take p ++ x.list.drop (p + 1)).length := by rw [List.length_append, List.length_take, List.length_drop]; omega
      have hrow := HO22.out
      rw [hlx] at hrow
      have HR : Hid (AlAt w23 (x.list.take p ++ x.list.drop (p + 1)) A22 c22) := Go.Lib.hid (AlAt.ofOwn rfl (own_keepA (w' := w23) (by rw [List.flatMap_append]; exact hrow) (fun g hg => ho23.block g (by have := own_geI hrow g hg; omega))))
      have HB24 : Hid (Bxo w23 w.heap.size 28 (whL ⟨x.list.take p ++ x.list.drop (p + 1), x.now⟩ A22 c22)) := Go.Lib.hid (by have q := HB23.out; rw [hlx] at q; exact q)
      have HNE : Hid (∀ ad', A22 = some ad' → W.heap.size ≤ ad'.block ∧ ad'.block < w23.heap.size) := Go.Lib.hid (fun ad' e => ⟨own_geI hrow ad'.block (by rw [e]; rfl), by have h1 := own_ltI hrow ad'.block (by rw [e]; rfl); have h2 := ho23.size; omega⟩); clear HB23 HB hrow hlx HO22 ho23
      go_wp2_with (first
        | (refine wpList_load_box rfl 28 _ rfl w.heap.size rfl (whL ⟨x.list.take p ++ x.list.drop (p + 1), x.now⟩ A22 c22) _ HB24.out Try.underlying28 rfl info_wh ?_)
        | (refine wpList_store_any rfl 28 _ _ rfl (w.heap.size + 1) 0 28 _ (whL ⟨x.list.take p ++ x.list.drop (p + 1), x.now⟩ A22 c22) _ rfl rfl rfl HZ.out info_wh (by show 0 + 2 ≤ 2; omega) (by simp [Value.oneCell']) ?_; intro wF hbF hoF; have HBF := Go.Lib.hid hbF; clear hbF))
      exact bodyPost_ret (v := whV ⟨x.list.take p ++ x.list.drop (p + 1), x.now⟩ A22 c22) (results_cell_row rfl _ _ (w.heap.size + 1) 28 _ _ _ rfl HBF.out Try.underlying28 rfl info_wh) rfl ⟨A22, c22, rfl, (HR.out.keepR (fun ad' e => hoF.block _ (by have := HNE.out ad' e; omega))), v23.trans (hoF.below (show w.heap.size ≤ w.heap.size + 1 by omega)), fun ad' e => ⟨Nat.le_trans y0.size (HNE.out ad' e).1, by have h1 := (HNE.out ad' e).2; have h2 := hoF.size; omega⟩⟩
end Go.Proofs.Ytebmomanpkmloaa
