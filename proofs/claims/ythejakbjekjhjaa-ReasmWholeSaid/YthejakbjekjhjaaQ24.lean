/- Lemmas of layer 7, several texts in one. -/
import Derived.Test.YthejakbjekjhjaaQ23
import Derived.Test.YthejakbjekjhjaaQ10
import Derived.Test.YthejakbjekjhjaaQ15
import Derived.Test.YthejakbjekjhjaaQ16
import Derived.Test.YthejakbjekjhjaaQ03
import Derived.Test.YthejakbjekjhjaaQ18
/- The contract of package reasm's Tick. -/
namespace Go.Proofs.Ythejakbjekjhjaa
open Go.ChangeShapes Go.WideShapes Go.ChangeAt Go.RowKit
set_option linter.unusedVariables false
set_option linter.unusedSimpArgs false

def tickQ (p : Po) (now : Int) : Po := ⟨p.room, p.life, now, p.list.filter (fun b => decide (now < b.born + p.life))⟩
theorem tick_no {p : Po} {now : Int} (h : inB now p.now 1099511627776 = false) : tickP p now = (p, 0, 1) := by
  unfold tickP
  rw [if_pos]
  unfold inB at h
  rw [Bool.and_eq_false_iff, decide_eq_false_iff_not, decide_eq_false_iff_not] at h
  omega
theorem tick_yes {p : Po} (hR : RightP p) {now : Int} (h : inB now p.now 1099511627776 = true) : tickP p now = (tickQ p now, (p.list.length : Int) - ((tickQ p now).list.length : Int), 0) ∧ p.now ≤ now ∧ now ≤ 1099511627776 := by
  unfold inB at h
  rw [Bool.and_eq_true, decide_eq_true_eq, decide_eq_true_eq] at h
  refine ⟨?_, h.1, h.2⟩
  unfold tickP
  rw [if_neg]
  · rfl
  · rintro (h1 | h1)
    · rw [(rightP_iff p).2 hR] at h1; cases h1
    · omega
theorem keep_map {p : Po} {es : List El} (hm : es.map El.b = p.list) (now : Int) : (es.filter (keepE now p.life)).map El.b = (tickQ p now).list := by
  show _ = p.list.filter _
  rw [← hm, List.filter_map]
  congr 2
  funext e
  simp only [keepE, oldB, Function.comp]
  by_cases h : now < e.b.born + p.life
  · rw [decide_eq_true h, decide_eq_false (by omega)]; rfl
  · rw [decide_eq_false h, decide_eq_true (by omega)]; rfl
theorem OwnPo.filter {w w' : World} {base : Nat} {D : Nat → Prop} {A : Option Addr} {c : Nat} {es : List El} {f : El → Bool} (h : OwnPo w base D A c es) (hrow : OwnB w' base A c (es.filter f)) (hg : w.grownBy w' (blk A)) : OwnPo w' base D A c (es.filter f) := by
  refine ⟨hrow, fun e he => ?_, h.dl, fun e he => h.de e (List.mem_filter.1 he).1, h.dis.sublist List.filter_sublist, fun b hb => Nat.lt_of_lt_of_le (h.lt b hb) hg.size⟩
  have hm := (List.mem_filter.1 he).1
  obtain ⟨rs, hr⟩ := h.els e hm
  refine ⟨rs, hr.keep (fun b hb => hg.block b (h.lt b hb) (fun e' => h.dl b e'.symm hb)) (fun g hg' => ?_)⟩
  exact hg.block g (h.rlt e hm g hg') (fun e' => (h.de e hm g hg').2 e'.symm)
/-- what Tick has in its hands. -/
structure TiS (w : World) (V : Nat → Prop) (base : Nat) (now : Int) (wx : World) (p : Po) (A : Option Addr) (c : Nat) (es : List El) (D : Nat → Prop) : Prop where
  b2 : Bxo wx w.heap.size 27 (poL p A c)
  b3 : Bxo wx (w.heap.size + 1) 3 [.int .i64 now]
  b4 : Bxo wx (w.heap.size + 2) 27 (poL po0 none 0)
  own : OwnPo wx base D A c es
  map : es.map El.b = p.list
  dv : ∀ b, D b → V b ∨ (base ≤ b ∧ b < wx.heap.size)
  vlt : ∀ b, V b → b < w.heap.size
  bel : Below w.heap.size w wx
  b0 : w.heap.size + 3 ≤ base
  b1 : base ≤ wx.heap.size
section
variable {w wx wy wz w5 : World} {V D : Nat → Prop} {base c : Nat} {now : Int} {A : Option Addr} {p p' : Po} {es : List El}
theorem TiS.step (h : TiS w V base now wx p A c es D) (y : Below wx.heap.size wx wy) : TiS w V base now wy p A c es D := by
  have z := y.size
  have z0 := h.bel.size
  exact ⟨h.b2.keep y h.b2.lt, h.b3.keep y h.b3.lt, h.b4.keep y h.b4.lt, h.own.keepH z (fun b hb => y.block b (h.own.lt b hb)) (fun b _ hb => y.block b hb), h.map, fun b hb => (h.dv b hb).imp_right (fun k => ⟨k.1, by omega⟩), h.vlt, h.bel.trans (y.mono z0), h.b0, Nat.le_trans h.b1 z⟩
theorem TiS.po (h : TiS w V base now wx p A c es D) : PoAt wx (fun b => V b ∨ (base ≤ b ∧ b < wx.heap.size)) p A c :=
  h.own.po h.dv (fun b h1 h2 => .inr ⟨h1, h2⟩) (fun b hb => hb.elim (fun k => by have := h.vlt b k; have := h.b0; have := h.b1; omega) (fun k => k.2)) p h.map
theorem TiS.set (h : TiS w V base now wx p A c es D) (ho : Only w.heap.size wx wy) (hb : Bxo wy w.heap.size 27 (poL p' A c)) (hl : p'.list = p.list) : TiS w V base now wy p' A c es D := by
  have s := ho.size
  have b0 := h.b0
  have b1 := h.b1
  have hd : ∀ b, D b → b ≠ w.heap.size := fun b hb => (h.dv b hb).elim (fun k => by have := h.vlt b k; omega) (fun k => by omega)
  exact ⟨hb, h.b3.only ho (by omega), h.b4.only ho (by omega), h.own.keepH (by omega) (fun b hb => ho.block b (hd b hb)) (fun b h1 _ => ho.block b (by omega)), by rw [h.map, hl], fun b hb => (h.dv b hb).imp_right (fun k => ⟨k.1, by omega⟩), h.vlt, h.bel.trans (ho.below (Nat.le_refl _)), b0, by omega⟩
theorem TiS.drop {f : El → Bool} (h : TiS w V base now wx p A c es D) (hrow : OwnB wy base A c (es.filter f)) (hg : wx.grownBy wy (blk A)) (hm : (es.filter f).map El.b = p'.list) : (Bxo wy w.heap.size 27 (poL p A c)) ∧ ∀ wz, Only w.heap.size wy wz → Bxo wz w.heap.size 27 (poL p' A c) → TiS w V base now wz p' A c (es.filter f) D := by
  have s := hg.size
  have b0 := h.b0
  have b1 := h.b1
  have hA : ∀ g, blk A = some g → base ≤ g := fun g hg' => by
    rcases own_addr h.own.row with ⟨hn', _⟩ | ⟨g2, hg2, h1, h2⟩
    · rw [hn'] at hg'; cases hg'
    · rw [hg2] at hg'; injection hg' with hg'; have hg' : g2 = g := hg'; omega
  have hlow : ∀ b, b < base → wy.heap[b]? = wx.heap[b]? := fun b hb => hg.block b (by omega) (fun e => by have := hA b e.symm; omega)
  have hO := h.own.filter hrow hg
  have hd : ∀ b, D b → b ≠ w.heap.size := fun b hb => (h.dv b hb).elim (fun k => by have := h.vlt b k; omega) (fun k => by omega)
  refine ⟨(hlow _ (by omega)).trans h.b2, fun wz ho hb => ?_⟩
  have sz := ho.size
  refine ⟨hb, (ho.block _ (by omega)).trans ((hlow _ (by omega)).trans h.b3), (ho.block _ (by omega)).trans ((hlow _ (by omega)).trans h.b4), hO.keepH (by omega) (fun b hb => ho.block b (hd b hb)) (fun b h1 _ => ho.block b (by omega)), hm, fun b hb => (h.dv b hb).imp_right (fun k => ⟨k.1, by omega⟩), h.vlt, ?_, b0, by omega⟩
  exact ⟨ho.os.trans (hg.os.trans h.bel.os), ho.tape.trans (hg.tape.trans h.bel.tape), ho.output.trans (hg.output.trans h.bel.output), by have := h.bel.size; omega, fun b hb => (ho.block b (by omega)).trans ((hlow b (by omega)).trans (h.bel.block b hb))⟩
theorem TiS.end (h : TiS w V base now wx p A c es D) (h5 : Only (w.heap.size + 2) wx w5) : PoAt w5 (growV V w w5) p A c ∧ Below w.heap.size w w5 := by
  have s5 := h5.size
  have z0 := h.bel.size
  have b0 := h.b0
  have b1 := h.b1
  have lt : ∀ b, growV V w w5 b → b < w5.heap.size := fun b hb => hb.elim (fun k => by have := h.vlt b k; omega) (fun k => k.2)
  have hd : ∀ b, D b → b ≠ w.heap.size + 2 := fun b hb => (h.dv b hb).elim (fun k => by have := h.vlt b k; omega) (fun k => by omega)
  have hO := h.own.keepH (w' := w5) (by omega) (fun b hb => h5.block b (hd b hb)) (fun b h1 h2 => h5.block b (by omega))
  exact ⟨hO.po (fun b hb => (h.dv b hb).imp_right (fun k => ⟨by omega, by omega⟩)) (fun b h1 h2 => .inr ⟨by omega, h2⟩) lt p h.map, h.bel.trans (h5.below (by omega))⟩
end
set_option maxRecDepth 100000 in
set_option maxHeartbeats 8000000 in
theorem ctick (p : Po) (A : Option Addr) (c : Nat) (now : Int) (w : World) (V : Nat → Prop) (q : Po) (many err : Int) (ht : tickP p now = (q, many, err)) (hP : PoAt w V p A c) (hR : RightP p) :
    Calls Try.prog 9 #[poV p A c, .int .i64 now] w fun e w' => ∃ A' c', e = .returned (.tuple #[poV q A' c', .int .i64 many, .int .i64 err]) ∧ PoAt w' (growV V w w') q A' c' ∧ Below w.heap.size w w' := by
  have HR := Go.Lib.hid hR
  clear hR
  have HVL := Go.Lib.hid hP.lt
  have y0 : Below w.heap.size w (((w.alloc (oPo p A c)).alloc (.cells #[.int .i64 now] 3)).alloc (oPo po0 none 0)) := below_alloc (below_alloc (below_alloc (Below.refl _ _) (Nat.le_refl _) _) (by simp) _) (by simp; omega) _
  have h2 := ((Bxo.made w 27 (poL p A c)).alloc (.cells #[.int .i64 now] 3)).alloc (oPo po0 none 0)
  have h3 : Bxo (((w.alloc (oPo p A c)).alloc (.cells #[.int .i64 now] 3)).alloc (oPo po0 none 0)) (w.heap.size + 1) 3 [.int .i64 now] := by
    have := (Bxo.made (w.alloc (oPo p A c)) 3 [.int .i64 now]).alloc (oPo po0 none 0)
    simpa using this
  have h4 : Bxo (((w.alloc (oPo p A c)).alloc (.cells #[.int .i64 now] 3)).alloc (oPo po0 none 0)) (w.heap.size + 2) 27 (poL po0 none 0) := by
    have := Bxo.made ((w.alloc (oPo p A c)).alloc (.cells #[.int .i64 now] 3)) 27 (poL po0 none 0)
    simpa using this
  have hz : (((w.alloc (oPo p A c)).alloc (.cells #[.int .i64 now] 3)).alloc (oPo po0 none 0)).heap.size = w.heap.size + 3 := by simp
  have hP0 := hP.at y0
  clear hP
  go_enter Try.func9, Try.ntmps9
  go_upto_region 1 with fail
  generalize (((w.alloc (oPo p A c)).alloc (.cells #[.int .i64 now] 3)).alloc (oPo po0 none 0)) = W at *
  have H2 := Go.Lib.hid h2
  have H3 := Go.Lib.hid h3
  have H4 := Go.Lib.hid h4
  have HP := Go.Lib.hid hP0
  clear h2 h3 h4 hP0
  go_upto_region 2 with (first
    | (refine wpList_load_box rfl 27 _ rfl w.heap.size rfl (poL p A c) _ H2.out Try.underlying27 rfl info_po ?_)
    | (go_at_call 15; refine (ccopyPool p A c W V HP.out HR.out.small).mono ?_; rintro e1 w1 ⟨A1, c1, rfl, ho1, y1⟩; have HO1 := Go.Lib.hid ho1; clear ho1; dsimp only)
    | (refine wpList_store_whole rfl 27 _ _ rfl w.heap.size _ (poL p A1 c1) rfl rfl (H2.out.keep y1 H2.out.lt) info_po rfl (by simp [Value.oneCell']) ?_; intro w2 hb2 ho2; have HB2 := Go.Lib.hid hb2; clear hb2))
  obtain ⟨es, D, hmap, hown, hdv⟩ := HO1.out
  have hs2 : Hid (TiS w V W.heap.size now w2 p A1 c1 es D) := Go.Lib.hid (by
    have s1 := y1.size
    have s2 := ho2.size
    have hne : ∀ b, D b → b ≠ w.heap.size := fun b hb => (hdv b hb).elim (fun k => by have := HVL.out b k; omega) (fun k => by omega)
    have yb : Below w.heap.size w w2 := (y0.trans (y1.mono (by omega))).trans (ho2.below (Nat.le_refl _))
    exact ⟨HB2.out, (H3.out.keep y1 H3.out.lt).only ho2 (by omega), (H4.out.keep y1 H4.out.lt).only ho2 (by omega), hown.keepH (by omega) (fun b hb => ho2.block b (hne b hb)) (fun b h1 h2 => ho2.block b (by omega)), hmap, fun b hb => (hdv b hb).imp_right (fun k => ⟨k.1, by omega⟩), HVL.out, yb, by omega, by omega⟩)
  have HS := hs2
  clear hs2 hmap hown hdv HO1 H2 H3 H4 HP HB2
  cases hin : inB now p.now 1099511627776
  · rw [tick_no hin] at ht
    injection ht with e1 e2
    injection e2 with e2 e3
    subst e1 e2 e3
    go_wp2_with (first
      | (refine wpList_load_box rfl 27 _ rfl w.heap.size rfl (poL p A1 c1) _ HS.out.b2 Try.underlying27 rfl info_po ?_)
      | (go_at_call 10; refine (cright p A1 c1 w2 _ true ((rightP_iff p).2 HR.out) HS.out.po (right_few HR.out)).mono ?_; rintro e4 w4 ⟨rfl, y4⟩; have HS4 := Go.Lib.hid (HS.out.step y4); have d2 := HS4.out.b2.cell 2 rfl; have d9 := HS4.out.b3.cell 0 rfl; dsimp only)
      | (go_at_call 26; refine (cwithin _ _ _ false hin _).mono ?_; rintro e w' ⟨rfl, rfl⟩; dsimp only)
      | (refine wpList_load_box rfl 27 _ rfl w.heap.size rfl (poL p A1 c1) _ HS4.out.b2 Try.underlying27 rfl info_po ?_)
      | (refine wpList_store_whole rfl 27 _ _ rfl (w.heap.size + 2) _ (poL p A1 c1) rfl rfl HS4.out.b4 info_po rfl (by simp [Value.oneCell']) ?_; intro wF hbF hoF; have HBF := Go.Lib.hid hbF; clear hbF))
    obtain ⟨hpo, hbel⟩ := HS4.out.end hoF
    refine bodyPost_ret (v := .tuple #[poV p A1 c1, .int .i64 0, .int .i64 1]) (results_ctt (p := 4) (u := 5) (v := 6) rfl _ _ (w.heap.size + 2) _ _ rfl HBF.out Try.underlying27 rfl info_po) rfl ?_
    exact ⟨A1, c1, rfl, hpo, hbel⟩
  · obtain ⟨htk, hn0, hn1⟩ := tick_yes HR.out hin
    rw [htk] at ht
    injection ht with e1 e2
    injection e2 with e2 e3
    subst e1 e2 e3
    clear htk
    go_upto_region 6 with (first
      | (refine wpList_load_box rfl 27 _ rfl w.heap.size rfl (poL p A1 c1) _ HS.out.b2 Try.underlying27 rfl info_po ?_)
      | (go_at_call 10; refine (cright p A1 c1 w2 _ true ((rightP_iff p).2 HR.out) HS.out.po (right_few HR.out)).mono ?_; rintro e4 w4 ⟨rfl, y4⟩; have HS4 := Go.Lib.hid (HS.out.step y4); have d2 := HS4.out.b2.cell 2 rfl; have d3 := HS4.out.b2.cell 3 rfl; have d9 := HS4.out.b3.cell 0 rfl; dsimp only)
      | (go_at_call 26; refine (cwithin _ _ _ true hin _).mono ?_; rintro e w' ⟨rfl, rfl⟩; dsimp only)
      | (refine wpList_store_any rfl 3 _ _ rfl w.heap.size 2 27 _ [.int .i64 now] _ rfl rfl rfl HS4.out.b2 info_i1 (by show 2 + 1 ≤ 4; omega) (by simp [Value.oneCell']) ?_; intro w5 hb5 ho5; have HB5 := Go.Lib.hid hb5; clear hb5 d2 d3 d9))
    have HS5 : Hid (TiS w V W.heap.size now w5 ⟨p.room, p.life, now, p.list⟩ A1 c1 es D) := Go.Lib.hid (HS4.out.set ho5 HB5.out rfl)
    have HM : Hid (es.map El.b = p.list) := Go.Lib.hid HS5.out.map
    have hfew := HR.out.few
    have hln : es.length = p.list.length := by rw [← HM.out, List.length_map]
    have hfl : (es.filter (keepE now p.life)).length = (tickQ p now).list.length := by rw [← keep_map HM.out now, List.length_map]
    have hfle : (tickQ p now).list.length ≤ p.list.length := List.length_filter_le _ _
    have hnn := HR.out.n0
    have HDF := Go.Lib.hid (cdelfunc es A1 c1 W.heap.size now ⟨p.room, p.life, now, p.list⟩ A1 c1 (w.heap.size + 1) w.heap.size w5 _ HS5.out.own.row (by rw [HS5.out.map]; exact HS5.out.po.ls) HS5.out.b3 HS5.out.b2 (by omega) (by omega) (fun e he => by
      have hg := HR.out.good e.b (by rw [← HS4.out.map]; exact List.mem_map_of_mem he)
      have := hg.b0; have := hg.b1; have := HR.out.n1
      exact ⟨by omega, by omega⟩) (by omega) hn1)
    dsimp only at HDF
    rw [hln, hfl] at HDF
    have d3 := HS5.out.b2.cell 3 rfl
    have hmf : ∀ fn first cap w, (Instr.makeFunc fn first cap).run Try.prog w = .ok (.func fn first cap) w := fun _ _ _ _ => rfl
    go_upto_region 7 with (first
      | (go_at_call 27; refine HDF.out.mono ?_; rintro e6 w6 ⟨rfl, hr6, hg6⟩; obtain ⟨hb6, hd6⟩ := HS5.out.drop hr6 hg6 (p' := tickQ p now) (keep_map HM.out now); have HB6 := Go.Lib.hid hb6; have HD6 := Go.Lib.hid hd6; clear hb6 hd6 hr6 hg6 d3; dsimp only)
      | (refine wpList_store_any rfl 25 _ _ rfl w.heap.size 3 27 _ [.slice A1 (tickQ p now).list.length c1] _ rfl rfl rfl HB6.out info_sb (by show 3 + 1 ≤ 4; omega) (by simp [Value.oneCell']) ?_; intro w7 hb7 ho7; have HB7 := Go.Lib.hid hb7; clear hb7))
    have HS7 : Hid (TiS w V W.heap.size now w7 (tickQ p now) A1 c1 (es.filter (keepE now p.life)) D) := Go.Lib.hid (HD6.out w7 ho7 HB7.out)
    have HS7d := Go.Lib.hid (HS7.out.step (below_drew (Below.refl _ _)))
    have s1 : IntKind.i64.wrap ((p.list.length : Int) - ((tickQ p now).list.length : Int)) = (p.list.length : Int) - ((tickQ p now).list.length : Int) := IntWalk.i64_in _ (by omega)
    clear hfew hln hfl hfle
    try simp only [Act.put, List.setIfInBounds_toArray, List.set_cons_zero, List.set_cons_succ]
    refine wp_region_held_drew (S := fun Y => Bxo Y w.heap.size 27 (poL (tickQ p now) A1 c1)) (by kernel_rfl) ?_ (fun hHeld => ?_)
    · exact HS7d.out.b2
    refine wpAnyH_take (i := 0) (oi := ⟨some 31, _, _, _, _, _⟩) (v := .agg (poL (tickQ p now) A1 c1).toArray) rfl (by kernel_rfl) (by kernel_rfl) (by kernel_rfl) (fun _ _ _ h => h) (yieldsIf_load_at (by rfl) 27 _ rfl ⟨w.heap.size, 0, none⟩ rfl (poL (tickQ p now) A1 c1) _ (fun Y h => h.at) Try.underlying27 rfl info_po) (by assumption) ?_
    try simp only [Act.put, List.setIfInBounds_toArray, List.set_cons_zero, List.set_cons_succ]
    refine wpAnyH_take (i := 1) (oi := ⟨some 32, _, _, _, _, _⟩) (v := ?_) rfl (by kernel_rfl) (by kernel_rfl) (by kernel_rfl) (fun _ _ _ h => h) (Or.inl ⟨by rfl, ?_⟩) (by assumption) ?_
    rotate_left
    · intro w hSw; (try dsimp only at hSw); go_simp; (try with_reducible rfl)
    try simp only [Act.put, List.setIfInBounds_toArray, List.set_cons_zero, List.set_cons_succ]
    refine wpAnyH_take (i := 2) (oi := ⟨some 33, _, _, _, _, _⟩) (v := ?_) rfl (by kernel_rfl) (by kernel_rfl) (by kernel_rfl) (fun _ _ _ h => h) (Or.inl ⟨by rfl, ?_⟩) (by assumption) ?_
    rotate_left
    · intro w hSw; (try dsimp only at hSw); go_simp; (try with_reducible rfl)
    try simp only [Act.put, List.setIfInBounds_toArray, List.set_cons_zero, List.set_cons_succ]
    refine wpAnyH_take (i := 3) (oi := ⟨some 34, _, _, _, _, _⟩) (v := ?_) rfl (by kernel_rfl) (by kernel_rfl) (by kernel_rfl) (fun _ _ _ h => h) (Or.inl ⟨by rfl, ?_⟩) (by assumption) ?_
    rotate_left
    · intro w hSw; have x3 := hSw.cell 3 rfl; (try dsimp only at hSw); go_simp; (try with_reducible rfl)
    try simp only [Act.put, List.setIfInBounds_toArray, List.set_cons_zero, List.set_cons_succ]
    refine wpAnyH_take (i := 4) (oi := ⟨some 35, _, _, _, _, _⟩) (v := ?_) rfl (by kernel_rfl) (by kernel_rfl) (by kernel_rfl) (fun _ _ _ h => h) (Or.inl ⟨by rfl, ?_⟩) (by assumption) ?_
    rotate_left
    · intro w hSw; (try dsimp only at hSw); go_simp; (try with_reducible rfl)
    try simp only [Act.put, List.setIfInBounds_toArray, List.set_cons_zero, List.set_cons_succ]
    refine wpAnyH_take (i := 5) (oi := ⟨some 36, _, _, _, _, _⟩) (v := ?_) rfl (by kernel_rfl) (by kernel_rfl) (by kernel_rfl) (fun _ _ _ h => h) (Or.inl ⟨by rfl, ?_⟩) (by assumption) ?_
    rotate_left
    · intro w hSw; (try dsimp only at hSw); go_simp; (try with_reducible rfl)
    try simp only [Act.put, List.setIfInBounds_toArray, List.set_cons_zero, List.set_cons_succ]
    refine wpAnyH_ready (rs := [6]) (by kernel_rfl) (by simp) (AllReadyH.cons (o := ⟨none, _, _, _, _, _⟩) rfl (fun Kc hKc => ?_) AllReadyH.nil)
    rw [if_pos (by rfl)]
    refine step_store_whole 27 _ _ rfl (w.heap.size + 2) _ (poL (tickQ p now) A1 c1) rfl rfl HS7d.out.b4 info_po rfl (by simp [Value.oneCell']) ?_; intro wF hbF hoF; have HBF := Go.Lib.hid hbF; clear hbF
    refine hKc.out _ _ (hHeld.only hoF (by omega)) (fun hHeld => ?_)
    clear hKc Kc
    try simp only [Act.put, List.setIfInBounds_toArray, List.set_cons_zero, List.set_cons_succ]
    refine wpAnyH_take (i := 7) (oi := ⟨some 5, _, _, _, _, _⟩) (v := ?_) rfl (by kernel_rfl) (by kernel_rfl) (by kernel_rfl) (fun _ _ _ h => h) (Or.inl ⟨by rfl, ?_⟩) (by assumption) ?_
    rotate_left
    · intro w hSw; (try dsimp only at hSw); go_simp; (try with_reducible rfl)
    try simp only [Act.put, List.setIfInBounds_toArray, List.set_cons_zero, List.set_cons_succ]
    refine wpAnyH_take (i := 8) (oi := ⟨some 6, _, _, _, _, _⟩) (v := ?_) rfl (by kernel_rfl) (by kernel_rfl) (by kernel_rfl) (fun _ _ _ h => h) (Or.inl ⟨by rfl, ?_⟩) (by assumption) ?_
    rotate_left
    · intro w hSw; (try dsimp only at hSw); go_simp; (try with_reducible rfl)
    try simp only [Act.put, List.setIfInBounds_toArray, List.set_cons_zero, List.set_cons_succ]
    refine wpAnyH_done (by kernel_rfl) ?_ _
    go_wp2
    obtain ⟨hpo, hbel⟩ := HS7d.out.end hoF
    refine bodyPost_ret (v := .tuple #[poV (tickQ p now) A1 c1, .int .i64 ((p.list.length : Int) - ((tickQ p now).list.length : Int)), .int .i64 0]) (results_ctt (p := 4) (u := 5) (v := 6) rfl _ _ (w.heap.size + 2) _ _ rfl HBF.out Try.underlying27 rfl info_po) rfl ?_
    exact ⟨A1, c1, rfl, hpo, hbel⟩

end Go.Proofs.Ythejakbjekjhjaa

/- A piece of a packet that is taken: plain mathematics. -/
namespace Go.Proofs.Ythejakbjekjhjaa
open Go.RowKit
set_option linter.unusedVariables false

/-- a packet that was cut into these pieces. -/
structure WholeP (x : Pk) (M : Mk) : Prop where
  may : May x
  off0 : x.off = 0
  mf0 : x.mf = false
  seq : SeqR 0 (allR M)
  data : dataR (allR M) = x.body
  o8 : ∀ r ∈ allR M, r.off % 8 = 0
  l8 : ∀ i r, M[i]? = some (r, false) → i + 1 < M.length → r.data.length % 8 = 0
  two : 2 ≤ M.length
  small : x.body.length ≤ 600
def pieceW (x : Pk) (r : Rn) (more : Bool) : Pk := ⟨x.tos, x.id, x.df, more, r.off, x.ttl, x.proto, x.src, x.dst, x.opts, r.data⟩
def headW (x : Pk) : Pk := ⟨x.tos, x.id, x.df, false, 0, x.ttl, x.proto, x.src, x.dst, x.opts, []⟩
def bufW (x : Pk) (M : Mk) : Bf := ⟨x.src, x.dst, x.id, x.proto, 0, if firstT M then headW x else Pk.empty, firstT M, if lastT M then (heldR (allR M) : Int) else -1, tkR M⟩
def poolW (x : Pk) (M : Mk) : Po := ⟨1000, 10, 0, if (tkR M).isEmpty then [] else [bufW x M]⟩
theorem all_last : ∀ (M : Mk), M ≠ [] → allT M = true → lastT M = true ∧ firstT M = true
  | [], h, _ => absurd rfl h
  | [a], _, h => by have : a.2 = true := by simpa [allT] using h
                    exact ⟨this, this⟩
  | a :: b :: t, _, h => by
    have h' : a.2 = true ∧ allT (b :: t) = true := by simpa [allT] using h
    exact ⟨(all_last (b :: t) (by simp) h'.2).1, h'.1⟩
theorem set_length (M : Mk) (i : Nat) (r : Rn) : (setM M i r).length = M.length := by simp [setM]
section
variable {x : Pk} {M : Mk} {i : Nat} {r : Rn}
theorem WholeP.held (W : WholeP x M) : heldR (allR M) = x.body.length := by rw [← dataR_length, W.data]
theorem WholeP.next (W : WholeP x M) (h : M[i]? = some (r, false)) : WholeP x (setM M i r) := by
  have e := set_all M i r h
  refine ⟨W.may, W.off0, W.mf0, by rw [e]; exact W.seq, by rw [e]; exact W.data, by rw [e]; exact W.o8, fun j s hj hl => ?_, by rw [set_length]; exact W.two, W.small⟩
  unfold setM at hj
  rw [set_length] at hl
  by_cases hij : i = j
  · subst hij
    rw [List.getElem?_set_self (by have := (List.getElem?_eq_some_iff.1 h).1; exact this)] at hj
    simp at hj
  · rw [List.getElem?_set_ne hij] at hj
    exact W.l8 j s hj hl
theorem WholeP.may_piece (W : WholeP x M) (h : M[i]? = some (r, false)) : May (pieceW x r (decide (i + 1 < M.length))) ∧ 0 < r.data.length ∧ stopR r ≤ (x.body.length : Int) := by
  obtain ⟨g1, g2, g3⟩ := seq_mem _ _ W.seq r (at_all M i r h)
  have hm := W.may
  have hs := W.small
  rw [W.held] at g3
  have g3' : r.off + (r.data.length : Int) ≤ (x.body.length : Int) := by unfold stopR at g3; omega
  have p40 := hm.p40
  refine ⟨⟨hm.t0, hm.t1, hm.l0, hm.l1, hm.r0, hm.r1, hm.i0, hm.i1, g1, ?_, W.o8 r (at_all M i r h), hm.p40, hm.p4, ?_, ?_⟩, g2, by unfold stopR; omega⟩
  · show r.off ≤ 65528; omega
  · show 20 + (x.opts.length : Int) + r.off + (r.data.length : Int) ≤ 65535; omega
  · intro hmf
    have : i + 1 < M.length := by simpa [pieceW] using hmf
    exact ⟨g2, W.l8 i r h this⟩
theorem one_buf (x : Pk) (M : Mk) (r : Rn) (b : Bool) : oneN (bufW x M) (pieceW x r b) = true := (oneN_iff _ _).2 rfl
theorem own_w (x : Pk) (M : Mk) (r : Rn) (b : Bool) : ownP (poolW x M) (pieceW x r b) = bufW x M ∧ thereP (poolW x M) (pieceW x r b) = !(tkR M).isEmpty := by
  unfold ownP thereP poolW
  dsimp only
  cases hc : tkR M with
  | nil =>
    obtain ⟨h1, h2⟩ := tk_nil M hc
    refine ⟨?_, rfl⟩
    show newB _ _ = bufW x M
    unfold newB bufW
    rw [h1, h2, hc]
    rfl
  | cons c s =>
    have e : List.find? (fun a => oneN a (pieceW x r b)) [bufW x M] = some (bufW x M) := by
      rw [List.find?_cons_of_pos (p := fun a => oneN a (pieceW x r b)) (one_buf x M r b)]
    show (List.find? _ [bufW x M]).getD _ = _ ∧ (List.find? _ [bufW x M]).isSome = _
    rw [e]
    exact ⟨rfl, rfl⟩
theorem WholeP.clash (W : WholeP x M) (h : M[i]? = some (r, false)) : clashB (bufW x M) (pieceW x r (decide (i + 1 < M.length))) = false := by
  have hst := seq_mem _ _ W.seq
  have hap := apart M i r 0 W.seq h
  unfold clashB
  rw [Bool.or_eq_false_iff]
  constructor
  · show (decide (0 < (if lastT M then (heldR (allR M) : Int) else -1)) && (!(decide (i + 1 < M.length)) || decide ((if lastT M then (heldR (allR M) : Int) else -1) < r.off + (r.data.length : Int)))) = false
    cases hl : lastT M with
    | false => rfl
    | true =>
      have h1 := last_not M i r h hl
      have h2 := (hst r (at_all M i r h)).2.2
      unfold stopR at h2
      rw [decide_eq_true h1]
      have : ¬ ((heldR (allR M) : Int) < r.off + (r.data.length : Int)) := by omega
      simp [this]
  · rw [List.any_eq_false]
    intro c hc
    have hc' : c ∈ tkR M := hc
    have h3 := hst c (tk_all M c hc')
    show ¬ ((decide (c.off < r.off + (r.data.length : Int)) && decide (r.off < stopR c)) || (!(decide (i + 1 < M.length)) && decide (r.off + (r.data.length : Int) < stopR c))) = true
    simp only [Bool.or_eq_true, Bool.and_eq_true, decide_eq_true_eq, Bool.not_eq_true', decide_eq_false_iff_not, not_or, not_and]
    refine ⟨fun h1 h2 => ?_, fun h1 => ?_⟩
    · rcases hap c hc' with h4 | h4
      · omega
      · unfold stopR at h4; omega
    · have hl : i + 1 = M.length := by have := (List.getElem?_eq_some_iff.1 h).1; omega
      have := stop_last M i r 0 W.seq h hl
      unfold stopR at this h3 ⊢
      omega
theorem WholeP.join (W : WholeP x M) (h : M[i]? = some (r, false)) : joinB (bufW x M) (pieceW x r (decide (i + 1 < M.length))) = bufW x (setM M i r) := by
  have e1 : insR (tkR M) ⟨r.off, r.data⟩ = tkR (setM M i r) := ins_set M i r 0 W.seq h
  have e2 := last_set M i r h
  have e3 := (first_set M i r W.seq h).1
  have e4 := set_all M i r h
  have hlt := (List.getElem?_eq_some_iff.1 h).1
  have e5 : (if (decide (i + 1 < M.length)) = true then (if lastT M then (heldR (allR M) : Int) else -1) else r.off + (r.data.length : Int)) = (if lastT (setM M i r) then (heldR (allR M) : Int) else -1) := by
    rw [e2]
    by_cases hl : i + 1 = M.length
    · have := stop_last M i r 0 W.seq h hl
      unfold stopR at this
      rw [if_neg (by simp; omega), decide_eq_true hl, Bool.or_true, if_pos rfl]
      omega
    · rw [if_pos (by simp; omega), decide_eq_false hl, Bool.or_false]
  have e6 : (if r.off = 0 then (⟨x.tos, x.id, x.df, false, r.off, x.ttl, x.proto, x.src, x.dst, x.opts, []⟩ : Pk) else (if firstT M then headW x else Pk.empty)) = (if firstT (setM M i r) then headW x else Pk.empty) := by
    rw [e3]
    by_cases h0 : r.off = 0
    · rw [if_pos h0, h0]
      simp [headW]
    · rw [if_neg h0]
      have : (r.off == 0) = false := by simpa using h0
      rw [this, Bool.or_false]
  have hb : joinB (bufW x M) (pieceW x r (decide (i + 1 < M.length))) = ⟨x.src, x.dst, x.id, x.proto, 0, (if r.off = 0 then (⟨x.tos, x.id, x.df, false, r.off, x.ttl, x.proto, x.src, x.dst, x.opts, []⟩ : Pk) else (if firstT M then headW x else Pk.empty)), firstT M || r.off == 0, (if (decide (i + 1 < M.length)) = true then (if lastT M then (heldR (allR M) : Int) else -1) else r.off + (r.data.length : Int)), insR (tkR M) ⟨r.off, r.data⟩⟩ := rfl
  rw [hb, e1, e5, e6, ← e3]
  unfold bufW
  rw [e4]
theorem poolW_held (x : Pk) (M : Mk) : heldP (poolW x M) = heldR (tkR M) := by
  unfold heldP poolW
  cases hc : tkR M with
  | nil => rfl
  | cons c s =>
    show heldL [bufW x M] = _
    show heldR (tkR M) + 0 = _
    rw [hc]; omega
theorem WholeP.withP_ (W : WholeP x M) (h : M[i]? = some (r, false)) : withP (poolW x M) (pieceW x r (decide (i + 1 < M.length))) = poolW x (setM M i r) := by
  obtain ⟨o1, o2⟩ := own_w x M r (decide (i + 1 < M.length))
  have hj := W.join h
  have hne : (tkR (setM M i r)).isEmpty = false := by
    have e1 : insR (tkR M) ⟨r.off, r.data⟩ = tkR (setM M i r) := ins_set M i r 0 W.seq h
    rw [← e1]
    cases hc : insR (tkR M) ⟨r.off, r.data⟩ with
    | nil => exact absurd hc (insR_ne _ _)
    | cons c s => rfl
  unfold withP
  rw [o1, o2, hj]
  unfold poolW
  dsimp only
  rw [hne]
  cases hc : (tkR M).isEmpty with
  | true => rfl
  | false =>
    show (⟨1000, 10, 0, putL [bufW x M] _ _⟩ : Po) = _
    show (⟨1000, 10, 0, [if oneN (bufW x M) (pieceW x r (decide (i + 1 < M.length))) then bufW x (setM M i r) else bufW x M]⟩ : Po) = _
    rw [one_buf, if_pos rfl]
    rfl
theorem without_w (x : Pk) (M : Mk) (r : Rn) (b : Bool) : withoutP (poolW x M) (pieceW x r b) = ⟨1000, 10, 0, []⟩ := by
  unfold withoutP poolW
  dsimp only
  cases hc : (tkR M).isEmpty with
  | true => rfl
  | false =>
    show (⟨1000, 10, 0, List.filter _ [bufW x M]⟩ : Po) = _
    rw [List.filter_cons_of_neg (by simp [one_buf])]
    rfl
/-- a piece that is taken: the packet is whole just if it was the last that was missing. -/
theorem WholeP.take (W : WholeP x M) (R : RightP (poolW x M)) (h : M[i]? = some (r, false)) :
    takeP (poolW x M) (pieceW x r (decide (i + 1 < M.length))) = if allT (setM M i r) then ⟨⟨1000, 10, 0, []⟩, x, true, 0⟩ else ⟨poolW x (setM M i r), Pk.empty, false, 0⟩ := by
  obtain ⟨hm, hl, hs⟩ := W.may_piece h
  obtain ⟨o1, o2⟩ := own_w x M r (decide (i + 1 < M.length))
  have hcl := W.clash h
  have hj := W.join h
  have W' := W.next h
  have hlt := (List.getElem?_eq_some_iff.1 h).1
  have hhe := W.held
  have hsm := W.small
  have hne : setM M i r ≠ [] := by intro e; have := set_length M i r; rw [e] at this; simp at this; omega
  unfold takeP
  rw [if_neg, if_neg, o1, if_neg (by rw [hcl]; simp), if_neg, hj]
  · have hsq : SeqR (([] : List UInt8).length : Int) (allR (setM M i r)) := W'.seq
    have hT : (bufW x (setM M i r)).total = if lastT (setM M i r) then (heldR (allR (setM M i r)) : Int) else -1 := rfl
    have hR : (bufW x (setM M i r)).runs = tkR (setM M i r) := rfl
    rw [hT, hR]
    cases ha : allT (setM M i r) with
    | true =>
      obtain ⟨l1, f1⟩ := all_last _ hne ha
      have hb := body_all (setM M i r) [] hsq ha
      rw [List.nil_append, W'.data] at hb
      rw [l1, hb, W'.held, if_pos rfl, if_neg (by omega)]
      have hx : (⟨(bufW x (setM M i r)).head.tos, (bufW x (setM M i r)).head.id, (bufW x (setM M i r)).head.df, (bufW x (setM M i r)).head.mf, (bufW x (setM M i r)).head.off, (bufW x (setM M i r)).head.ttl, (bufW x (setM M i r)).head.proto, (bufW x (setM M i r)).head.src, (bufW x (setM M i r)).head.dst, (bufW x (setM M i r)).head.opts, x.body⟩ : Pk) = x := by
        have he : (bufW x (setM M i r)).head = headW x := by show (if firstT (setM M i r) then headW x else Pk.empty) = _; rw [f1]; rfl
        rw [he]
        apply Pk.ext' <;> first | rfl | exact W.mf0.symm | exact W.off0.symm
      dsimp only
      rw [hx, if_pos ((mayB_iff x).2 W.may), without_w, if_pos rfl]
    | false =>
      have hb := body_less (setM M i r) [] hsq ha
      rw [if_pos, W.withP_ h]
      · rfl
      · cases hll : lastT (setM M i r) with
        | false => left; show (-1 : Int) < 0; omega
        | true =>
          right
          show ((bodyR (tkR (setM M i r)) []).length : Int) ≠ (heldR (allR (setM M i r)) : Int)
          simp at hb
          omega
  · rw [o2, poolW_held]
    have hk : heldR (tkR M) + r.data.length ≤ heldR (allR M) := by
      have h1 := heldR_ins ⟨r.off, r.data⟩ (tkR M)
      have h2 : insR (tkR M) ⟨r.off, r.data⟩ = tkR (setM M i r) := ins_set M i r 0 W.seq h
      have h3 := held_tk (setM M i r)
      rw [set_all M i r h] at h3
      rw [h2] at h1
      dsimp only at h1
      omega
    rintro (⟨h1, h2⟩ | h1)
    · have he : (tkR M).isEmpty = true := by simpa using h1
      unfold poolW at h2
      rw [he] at h2
      simp at h2
    · have h1' : (1000 : Int) < (heldR (tkR M) : Int) + (r.data.length : Int) := h1
      omega
  · rintro (h1 | h1 | h1)
    · rw [(rightP_iff _).2 R] at h1; cases h1
    · rw [(mayB_iff _).2 hm] at h1; cases h1
    · have : r.data.length = 0 := h1
      omega
  · rintro ⟨h1, h2⟩
    have h1' : ¬ i + 1 < M.length := by simpa [pieceW] using h1
    have h2' : r.off = 0 := h2
    have := (first_set M i r W.seq h).2 h2'
    have := W.two
    omega
end
end Go.Proofs.Ythejakbjekjhjaa

/- The pieces that are left, and how a packet is cut: plain mathematics. -/
namespace Go.Proofs.Ythejakbjekjhjaa
open Go.RowKit
set_option linter.unusedVariables false

/-- the pieces that are left, in their order. -/
def unW (x : Pk) : Mk → List Pk
  | [] => []
  | (r, true) :: t => unW x t
  | (r, false) :: t => pieceW x r (!t.isEmpty) :: unW x t
theorem un_nil (x : Pk) : ∀ M : Mk, unW x M = [] ↔ allT M = true
  | [] => by simp [unW, allT]
  | (r, true) :: t => by
    have := un_nil x t
    show unW x t = [] ↔ _
    rw [this]
    simp [allT]
  | (r, false) :: t => by simp [unW, allT]
theorem un_at (x : Pk) : ∀ (M : Mk) (k : Nat) (y : Pk), (unW x M)[k]? = some y → ∃ (i : Nat) (r : Rn), M[i]? = some (r, false) ∧ y = pieceW x r (decide (i + 1 < M.length)) ∧ unW x (setM M i r) = (unW x M).take k ++ (unW x M).drop (k + 1)
  | [], k, y, h => by simp [unW] at h
  | (a, true) :: t, k, y, h => by
    obtain ⟨i, r, h1, h2, h3⟩ := un_at x t k y h
    refine ⟨i + 1, r, by simpa using h1, ?_, ?_⟩
    · rw [h2]; congr 1; simp
    · show unW x ((a, true) :: setM t i r) = _
      exact h3
  | (a, false) :: t, 0, y, h => by
    have hy : y = pieceW x a (!t.isEmpty) := by simpa [unW] using h.symm
    refine ⟨0, a, rfl, ?_, ?_⟩
    · rw [hy]; congr 1; cases t <;> simp
    · show unW x ((a, true) :: t) = _
      simp [unW]
  | (a, false) :: t, k + 1, y, h => by
    obtain ⟨i, r, h1, h2, h3⟩ := un_at x t k y (by simpa [unW] using h)
    refine ⟨i + 1, r, by simpa using h1, ?_, ?_⟩
    · rw [h2]; congr 1; simp
    · show unW x ((a, false) :: setM t i r) = _
      have he : (setM t i r).isEmpty = t.isEmpty := by
        have hl := set_length t i r
        rw [Bool.eq_iff_iff, List.isEmpty_iff_length_eq_zero, List.isEmpty_iff_length_eq_zero, hl]
      show pieceW x a (!(setM t i r).isEmpty) :: unW x (setM t i r) = _
      rw [he, h3]
      rfl
/-- a packet that was cut so far. -/
structure CutOk (x : Pk) (P : List Rn) (at_ : Nat) : Prop where
  seq : SeqR 0 P
  held : heldR P = at_
  data : dataR P = x.body.take at_
  m8 : ∀ r ∈ P, r.off % 8 = 0 ∧ r.data.length % 8 = 0
  a8 : at_ % 8 = 0
  lt : at_ < x.body.length
theorem cut_none (x : Pk) (h : 0 < x.body.length) : CutOk x [] 0 := ⟨trivial, rfl, by simp [dataR], (fun r h => by cases h), rfl, h⟩
theorem held_snoc (r : Rn) : ∀ l : List Rn, heldR (l ++ [r]) = heldR l + r.data.length
  | [] => by simp [heldR]
  | a :: t => by simp only [List.cons_append, heldR, held_snoc r t]; omega
theorem data_snoc (r : Rn) : ∀ l : List Rn, dataR (l ++ [r]) = dataR l ++ r.data
  | [] => by simp [dataR]
  | a :: t => by simp only [List.cons_append, dataR, data_snoc r t, List.append_assoc]
theorem seq_snoc (r : Rn) : ∀ (l : List Rn) (k : Int), SeqR k l → r.off = k + (heldR l : Int) → 0 < r.data.length → SeqR k (l ++ [r])
  | [], k, _, h, hl => ⟨by simpa [heldR] using h, hl, trivial⟩
  | a :: t, k, ⟨h1, h2, h3⟩, h, hl => ⟨h1, h2, seq_snoc r t (stopR a) h3 (by rw [h]; unfold stopR; simp only [heldR]; omega) hl⟩
theorem CutOk.next {x : Pk} {P : List Rn} {at_ to_ : Nat} (h : CutOk x P at_) (h1 : at_ < to_) (h8 : to_ % 8 = 0) (hl : to_ < x.body.length) : CutOk x (P ++ [⟨(at_ : Int), (x.body.take to_).drop at_⟩]) to_ := by
  have a8 := h.a8
  have e : ((x.body.take to_).drop at_).length = to_ - at_ := by rw [List.length_drop, List.length_take]; omega
  refine ⟨seq_snoc _ P 0 h.seq (by rw [h.held]; simp) (by rw [e]; omega), ?_, ?_, ?_, h8, hl⟩
  · rw [held_snoc, h.held]; show at_ + ((x.body.take to_).drop at_).length = to_; rw [e]; omega
  · rw [data_snoc, h.data]
    show x.body.take at_ ++ (x.body.take to_).drop at_ = x.body.take to_
    have : x.body.take at_ = (x.body.take to_).take at_ := by rw [List.take_take, Nat.min_eq_left (by omega)]
    rw [this, List.take_append_drop]
  · intro r hr
    rcases List.mem_append.1 hr with hr | hr
    · exact h.m8 r hr
    · rw [List.mem_singleton.1 hr]
      show (at_ : Int) % 8 = 0 ∧ ((x.body.take to_).drop at_).length % 8 = 0
      rw [e]; omega
def freshM (P : List Rn) : Mk := P.map (fun r => (r, false))
theorem fresh_all (P : List Rn) : allR (freshM P) = P := by unfold allR freshM; rw [List.map_map]; exact List.map_id P
theorem fresh_tk : ∀ P : List Rn, tkR (freshM P) = []
  | [] => rfl
  | a :: t => fresh_tk t
theorem un_fresh (x : Pk) (r : Rn) : ∀ P : List Rn, unW x (freshM (P ++ [r])) = P.map (fun a => pieceW x a true) ++ [pieceW x r false]
  | [] => rfl
  | a :: t => by
    have ih := un_fresh x r t
    show pieceW x a (!(freshM (t ++ [r])).isEmpty) :: unW x (freshM (t ++ [r])) = pieceW x a true :: (t.map _ ++ _)
    rw [ih]
    congr 2
    unfold freshM
    simp
theorem CutOk.whole {x : Pk} {P : List Rn} {at_ : Nat} (h : CutOk x P at_) (hP : P ≠ []) (hm : May x) (h0 : x.off = 0) (hf : x.mf = false) (hs : x.body.length ≤ 600) : WholeP x (freshM (P ++ [⟨(at_ : Int), x.body.drop at_⟩])) := by
  have lt := h.lt
  have e : (x.body.drop at_).length = x.body.length - at_ := List.length_drop
  refine ⟨hm, h0, hf, ?_, ?_, ?_, ?_, ?_, hs⟩
  · rw [fresh_all]
    exact seq_snoc _ P 0 h.seq (by rw [h.held]; simp) (by rw [e]; omega)
  · rw [fresh_all, data_snoc, h.data]
    show x.body.take at_ ++ x.body.drop at_ = x.body
    exact List.take_append_drop _ _
  · rw [fresh_all]
    intro r hr
    rcases List.mem_append.1 hr with hr | hr
    · exact (h.m8 r hr).1
    · rw [List.mem_singleton.1 hr]
      have := h.a8
      show (at_ : Int) % 8 = 0
      omega
  · intro i r hi hl
    have hlen : (freshM (P ++ [⟨(at_ : Int), x.body.drop at_⟩])).length = P.length + 1 := by simp [freshM]
    rw [hlen] at hl
    unfold freshM at hi
    rw [List.getElem?_map, Option.map_eq_some_iff] at hi
    obtain ⟨s, hs', he⟩ := hi
    have hsr : s = r := by injection he
    rw [List.getElem?_append_left (by omega)] at hs'
    rw [← hsr]
    exact (h.m8 s (List.mem_of_getElem? hs')).2
  · have : 0 < P.length := List.length_pos_iff.2 hP
    simp [freshM]; omega
theorem pool_fresh (x : Pk) (P : List Rn) : poolW x (freshM P) = ⟨1000, 10, 0, []⟩ := by unfold poolW; rw [fresh_tk]; rfl
theorem right_new {room life : Int} (h0 : 1 ≤ room) (h1 : room ≤ 1048576) (h2 : 1 ≤ life) (h3 : life ≤ 1048576) : RightP ⟨room, life, 0, []⟩ :=
  ⟨h0, h1, h2, h3, by show (0 : Int) ≤ 0; omega, by show (0 : Int) ≤ 1099511627776; omega, by simp, (fun b hb => by cases hb), by simp, by show ((0 : Nat) : Int) ≤ room; omega⟩
end Go.Proofs.Ythejakbjekjhjaa

/- What layer 7's statements begin with, worked out: a piece of one byte at 8 is held; with eight bytes ahead of it, it makes a packet of nine. -/
namespace Go.Proofs.Ythejakbjekjhjaa
set_option linter.unusedVariables false

def p0 : Po := ⟨100, 9, 0, []⟩
def x1 : Pk := ⟨0, 0, false, false, 8, 5, 17, 0, 0, [], [9]⟩
def x2 : Pk := ⟨0, 0, false, true, 0, 6, 17, 0, 0, [], [0, 0, 0, 0, 0, 0, 0, 0]⟩
def p1 : Po := ⟨100, 9, 0, [⟨0, 0, 0, 17, 0, Pk.empty, false, 9, [⟨8, [9]⟩]⟩]⟩
def y9 : Pk := ⟨0, 0, false, false, 0, 6, 17, 0, 0, [], [0, 0, 0, 0, 0, 0, 0, 0, 9]⟩
theorem take_x1 : takeP p0 x1 = ⟨p1, Pk.empty, false, 0⟩ := by rfl
theorem take_x2 : takeP p1 x2 = ⟨p0, y9, true, 0⟩ := by rfl
theorem held_p1 : heldP p1 = 1 := by rfl
/-- ahead of the packet k, in the walk of whatever comes: the pool. -/
structure StP (room life now : Int) (k : Nat) (p : Po) : Prop where
  right : RightP p
  eroom : p.room = room
  elife : p.life = life
  enow : p.now = now
  n1 : now ≤ 255 * (k : Int)
  born : ∀ b ∈ p.list, now - b.born < life
theorem StP.start {room life : Int} (h0 : 1 ≤ room) (h1 : room ≤ 1048576) (h2 : 1 ≤ life) (h3 : life ≤ 1048576) : StP room life 0 0 ⟨room, life, 0, []⟩ :=
  ⟨right_new h0 h1 h2 h3, rfl, rfl, rfl, by show (0 : Int) ≤ 0; omega, (fun b hb => by cases hb)⟩
theorem StP.take {room life now : Int} {k : Nat} {p : Po} (h : StP room life now k p) (x : Pk) : StP room life now k (takeP p x).pool ∧ ((takeP p x).ok = false → (takeP p x).out.body = []) ∧ ((takeP p x).ok = true → (takeP p x).err = 0) := by
  obtain ⟨a, b, c⟩ := take_kept h.right x
  refine ⟨⟨a.right, a.room.trans h.eroom, a.life.trans h.elife, a.now.trans h.enow, h.n1, fun y hy => ?_⟩, b, c⟩
  have l0 := h.right.l0
  have e1 := h.elife
  have e2 := h.enow
  rcases a.born y hy with ⟨z, hz, e⟩ | e
  · have := h.born z hz; omega
  · omega
theorem StP.next {room life now : Int} {k : Nat} {p : Po} (h : StP room life now k p) : StP room life now (k + 1) p := ⟨h.right, h.eroom, h.elife, h.enow, by have := h.n1; omega, h.born⟩
theorem StP.tick {room life now : Int} {k : Nat} {p : Po} (h : StP room life now k p) (hk : k ≤ 60) {d : Int} (d0 : 0 ≤ d) (d1 : d ≤ 255) : ∃ q many, tickP p (now + d) = (q, many, 0) ∧ StP room life (now + d) (k + 1) q := by
  have n1 := h.n1
  have e := h.enow
  have l := h.elife
  obtain ⟨a1, a2, a3, a4, a5, a6, a7⟩ := tick_right h.right (now := now + d) (by omega) (by omega)
  refine ⟨(tickP p (now + d)).1, (tickP p (now + d)).2.1, by rw [← a1], a2, a5.trans h.eroom, a4.trans l, a3, by omega, fun b hb => ?_⟩
  have := (a7 b hb).2
  omega
theorem StP.told {room life now : Int} {k : Nat} {p : Po} (h : StP room life now k p) : rightP p = true ∧ (heldP p : Int) ≤ room ∧ p.list.length ≤ 64 := ⟨(rightP_iff p).2 h.right, by have := h.right.fits; have := h.eroom; omega, h.right.few⟩
end Go.Proofs.Ythejakbjekjhjaa
