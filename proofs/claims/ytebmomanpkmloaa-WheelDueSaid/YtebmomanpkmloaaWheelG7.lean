/- A wheel as a heap in a struct, its places in a map: Tick; all that a wheel owes. -/
import Derived.Test.YtebmomanpkmloaaWheelG6
import Derived.Test.YtebmomanpkmloaaWheelAct
namespace Go.Proofs.Ytebmomanpkmloaa
open Go.ChangeShapes Go.WideShapes Go.ChangeAt Go.RowKit
set_option linter.unusedVariables false
set_option linter.unusedSimpArgs false

theorem field_num (a b : Int) (W : World) : (Instr.field 67 (.agg #[.int .i64 a, .int .i64 b]) 0).run Try.prog W = .ok (.int .i64 a) W := by
  have z3 := Try.sizeOf3
  have u := Try.underlying67
  have a3 := Try.isAgg3
  unfold Instr.field
  go_simp
  rfl
/-- while what is due is taken off, one after another. -/
structure TkG (w : World) (g : Nat) (x : Wh) (now : Int) (F : Nat → Prop) (wr : World) (lc : List Al) (dn : List Int) (B : Option Addr) (d : Nat) : Prop where
  rep : (heapG g now).Rep wr lc F
  heap : HeapA lc lc.length
  own : wr.ownsRow w.heap.size 3 1 (.slice B dn.length d) dn.length (dn.map (fun n => Value.int .i64 n))
  due : dn ++ numsA (dueA lc now) = numsA (dueA x.list now)
  left : (leftA lc now).Perm (leftA x.list now)
  len : dn.length + lc.length = x.list.length
  moves : Moves w wr F
  fresh : ∀ b, F b → b < w.heap.size
/-- what Tick hands back. -/
def GTick (w : World) (g : Nat) (F : Nat → Prop) (q : Wh × List Int × Int) (e : Ending) (w' : World) : Prop := ∃ F' A c, e = .returned (.tuple #[.slice A q.2.1.length c, .int .i64 q.2.2]) ∧ DueAt w w' F' q.2.1 A c ∧ WRep w' ⟨g, 0, none⟩ q.1 F' ∧ Newer w F F' ∧ Moves w w' F
section
variable {w : World} {g : Nat} {l : List Al} {x : Wh} {F : Nat → Prop} {A : Option Addr} {c mb : Nat}
theorem GTick.same {q : Wh × List Int × Int} (hq : q = (x, [], 1)) (h : WR w g l x F A c mb) : GTick w g F q (.returned (.tuple #[.slice none 0 0, .int .i64 1])) w :=
  ⟨F, none, 0, by rw [hq]; rfl, by rw [hq]; exact ⟨⟨Nat.le_refl _, by omega, fun _ => rfl, .inl rfl⟩, fun ad e => by cases e⟩, by rw [hq]; exact ⟨g, rfl, .inr ⟨l, A, c, mb, h⟩⟩, fun b f => .inl f, Moves.refl _ _⟩
theorem GTick.fin {now : Int} {q : Wh × List Int × Int} {w' : World} {lc : List Al} {dn : List Int} {B : Option Addr} {d : Nat} (hq : q = (⟨leftA x.list now, now⟩, numsA (dueA x.list now), 0)) (hr : RightW q.1) (h : TkG w g x now F w' lc dn B d) (he : lc.length = 0 ∨ now < (atA lc 0).at_) : GTick w g F q (.returned (.tuple #[.slice B dn.length d, .int .i64 0])) w' := by
  obtain ⟨e1, e2⟩ := due_none h.heap he
  have hd := h.due
  have hl := h.left
  rw [e1] at hd
  rw [e2] at hl
  have hd' : numsA (dueA x.list now) = dn := by rw [← hd]; simp [numsA]
  subst hq
  refine ⟨F, B, d, by dsimp only; rw [hd'], ?_, WRep.of (x' := ⟨leftA x.list now, now⟩) h.rep hl h.heap hr, fun b f => .inl f, h.moves⟩
  dsimp only
  rw [hd']
  refine ⟨InsAt.ofOwn rfl h.own, fun ad e => ?_⟩
  have h1 := own_geI h.own ad.block (by rw [e]; rfl)
  exact ⟨h1, own_ltI h.own ad.block (by rw [e]; rfl), fun f => by have := h.fresh _ f; omega⟩
set_option maxRecDepth 100000 in
set_option maxHeartbeats 8000000 in
theorem gtick (h : WR w g l x F A c mb) (now : Int) (q : Wh × List Int × Int) (hq : tickH x now = q) :
    Calls Try.prog 14 #[.pointer (some ⟨g, 0, none⟩), .int .i64 now] w (GTick w g F q) := by
  have hm := h.mem
  have HH := Go.Lib.hid h
  have c2 := hm.box.cell 2 rfl
  by_cases h0 : now < x.now
  · have HQ : Hid (q = (x, [], 1)) := Go.Lib.hid (by rw [← hq]; unfold tickH; rw [if_pos (by omega)])
    clear hm h hq
    go_enter Try.func14, Try.ntmps14
    go_wp2
    go_ret2
    exact GTick.same HQ.out HH.out
  by_cases h1 : 1099511627776 < now
  · have HQ : Hid (q = (x, [], 1)) := Go.Lib.hid (by rw [← hq]; unfold tickH; rw [if_pos (by omega)])
    clear hm h hq
    go_enter Try.func14, Try.ntmps14
    go_wp2
    go_ret2
    exact GTick.same HQ.out HH.out
  have HQ : Hid (q = (⟨leftA x.list now, now⟩, numsA (dueA x.list now), 0)) := Go.Lib.hid (by rw [← hq]; unfold tickH; rw [if_neg (by omega)])
  have HRW : Hid (RightW q.1) := Go.Lib.hid (by rw [← hq]; exact h.right.tick now)
  have HB := Go.Lib.hid hm.box
  have hFg : F g := (hm.blocks g).2 (.inl rfl)
  have HG : Hid (∀ w2, Only g w w2 → Bxo w2 g 59 [.slice A l.length c, .map (some mb), .int .i64 now] → TkG w g x now F w2 l [] none 0) := Go.Lib.hid (fun w2 ho hb => by
    refine ⟨⟨A, c, mb, ⟨hb, own_keepA hm.row (fun b e => ho.block b (fun e' => hm.g2 (by rw [e, e']))), hm.map.keep (ho.block mb (Ne.symm hm.g1)), hm.blocks, hm.g1, hm.g2, hm.g3, hm.once, hm.rng, hm.size⟩⟩, h.heap, own_none _ _ _ _, ?_, left_perm h.perm now, ?_, gro_moves ho.gro hFg, fun b hb => hm.lt b hb⟩
    · rw [due_eq h.perm]; rfl
    · rw [h.perm.length_eq]; simp)
  have hxl : x.list.length ≤ 256 := h.right.size
  obtain ⟨i0_, hi_, hz0, hz1, hz2⟩ := info_parts info_iz
  clear hm h hq
  go_enter Try.func14, Try.ntmps14
  go_upto_region 4 with (refine wpList_store_any rfl 3 _ _ rfl g 2 59 _ [.int .i64 now] _ rfl rfl rfl HB.out info_i1 (by show 2 + 1 ≤ 3; omega) (by simp [Value.oneCell']) ?_; intro w2 hb2 ho2; have HI0 := Go.Lib.hid (HG.out w2 ho2 hb2); clear hb2 ho2)
  clear HG HB c2
  go_wp2_with fail
  go_loopw [6] (fun o wr => ∃ (lc : List Al) (dn : List Int) (B : Option Addr) (d : Nat), o = .slice B dn.length d ∧ Hid (TkG w g x now F wr lc dn B d)) (fun o _ => x.list.length + 1 - lenV o)
  case atStart => exact ⟨l, [], none, 0, rfl, HI0⟩
  case round =>
    rename World => wo
    obtain ⟨lc, dn, B, d, rfl, HI⟩ := hrel
    have hlen := HI.out.len
    clear HI0
    obtain ⟨A1, c1, mb1, hg1⟩ := HI.out.rep
    have c0 := hg1.box.cell 0 rfl
    by_cases hl0 : lc.length = 0
    · have HE : Hid (lc.length = 0 ∨ now < (atA lc 0).at_) := Go.Lib.hid (.inl hl0)
      rw [hl0] at c0
      clear hg1
      go_wp2
      go_ret2
      exact GTick.fin HQ.out HRW.out HI.out HE.out
    · obtain ⟨r, rfl, _, hcr⟩ := hg1.cell (show 0 < lc.length by omega)
      have hc0 := hcr wo rfl
      obtain ⟨a, ha⟩ : ∃ a, atA lc 0 = a := ⟨_, rfl⟩
      rw [ha] at hc0
      have HA := Go.Lib.hid ha
      have d1 := hc0 1 _ rfl
      rw [Addr.add_mid] at d1
      obtain ⟨m, hm'⟩ : ∃ m, lc.length = m := ⟨_, rfl⟩
      have HM' := Go.Lib.hid hm'
      rw [hm'] at c0 hlen hl0
      have m1 : (0 : Int) < (m : Int) := by omega
      obtain ⟨an, at_⟩ := a
      dsimp only at d1
      have HR := Go.Lib.hid (⟨_, c1, mb1, hg1⟩ : (heapG g now).Rep wo lc F)
      clear hg1 hcr hc0 ha hm'
      by_cases hd : at_ ≤ now
      · have HD := Go.Lib.hid hd
        have hgeB : ∀ b, blk B = some b → w.heap.size ≤ b := fun b e => own_geI HI.out.own b e
        have hnF : ∀ b, blk B = some b → ¬ F b := fun b e f => by have h1 := hgeB b e; have h2 := HI.out.fresh b f; omega
        have HNF := Go.Lib.hid hnF
        have HGE := Go.Lib.hid hgeB
        have fnum := field_num an at_
        clear hgeB hnF
        go_wp2_with (first
          | (go_at_call 24; refine (gtake HR.out 0 (by rw [HM'.out]; omega) HI.out.heap ⟨an, at_⟩ HA.out).mono ?_; rintro e w1 ⟨rfl, l1, r1, m1', p1, h1'⟩; have HR1 := Go.Lib.hid r1; have HM1 := Go.Lib.hid m1'; have HP1 := Go.Lib.hid p1; have HH1 := Go.Lib.hid h1'; have HO1 := Go.Lib.hid (own_keepA (w' := w1) HI.out.own (fun b e => m1'.block b (own_ltI HI.out.own b e) (HNF.out b e))); have HM3 := Go.Lib.hid (HI.out.moves.trans m1'); have hs3 := HM3.out.size; clear r1 m1' p1 h1' c0 d1; dsimp only)
          | (at_builtin; refine wpList_append_rdK rfl _ _ 37 rfl w.heap.size 3 i0_ _ 1 8 Try.underlying37 hi_ hz0 hz1 hz2 rfl (by omega) (.slice B dn.length d) dn.length (dn.map (fun n => Value.int .i64 n)) rfl (own_keepA HO1.out (fun b e => Below.heap_alloc w1 _ b (own_ltI HO1.out b e))) (some ⟨w1.heap.size, 0, none⟩) 1 1 [.int .i64 an] rfl rfl (fun e => by cases e) (.inr ⟨_, rfl, (Bxo.made w1 3 [.int .i64 an]).at⟩) (by simp [Value.oneCell']) (by unfold maxLen; omega) (by omega) (by simp; omega) ?_; intro v10 w10 ho10 hg10 hat10; obtain ⟨A10, c10, rfl⟩ := own_slice ho10; rw [ownBlock_blk] at hg10; have HO10 := Go.Lib.hid ho10; have HG10 := Go.Lib.hid hg10; clear ho10 hg10 hat10; dsimp only))
        obtain ⟨e1, e2⟩ := due_first HI.out.heap (by rw [HA.out]; exact HP1.out) (by rw [HA.out]; exact HD.out)
        have hlen1 := HP1.out.length_eq
        rw [HM'.out, List.length_cons] at hlen1
        have hz3 : (w1.alloc (.cells #[.int .i64 an] 3)).heap.size = w1.heap.size + 1 := by simp
        have hsz := HG10.out.size
        go_round
        case rel => exact ⟨l1, dn ++ [an], A10, c10, by rw [List.length_append]; rfl, Go.Lib.hid ⟨
          (heapG g now).keep HR1.out (fun b hb => (HG10.out.block b (by have := (heapG g now).lt HR1.out b hb; omega) (fun e => HNF.out b e.symm hb)).trans (Below.heap_alloc w1 _ b ((heapG g now).lt HR1.out b hb))) (by omega),
          HH1.out, by rw [List.length_append, List.map_append]; exact HO10.out,
          by rw [← HI.out.due, e1, HA.out]; simp [numsA], e2.trans HI.out.left, by rw [List.length_append]; show dn.length + 1 + _ = _; omega,
          ⟨HG10.out.os.trans HM3.out.os, HG10.out.tape.trans HM3.out.tape, HG10.out.output.trans HM3.out.output, by omega, fun k hk hn => ((HG10.out.block k (by omega) (fun e => by have := HGE.out k e.symm; omega)).trans (Below.heap_alloc w1 _ k (by omega))).trans (HM3.out.block k hk hn)⟩,
          HI.out.fresh⟩⟩
        case measure => simp only [lenV]; omega
      · have HE : Hid (lc.length = 0 ∨ now < (atA lc 0).at_) := Go.Lib.hid (.inr (by rw [HA.out]; show now < at_; omega))
        go_wp2
        go_ret2
        exact GTick.fin HQ.out HRW.out HI.out HE.out
end
section
variable {w : World} {g : Nat} {x : Wh} {F : Nat → Prop}
set_option maxRecDepth 100000 in
set_option maxHeartbeats 8000000 in
theorem ftick (h : WF w g x F) (now : Int) (q : Wh × List Int × Int) (hq : tickH x now = q) :
    Calls Try.prog 14 #[.pointer (some ⟨g, 0, none⟩), .int .i64 now] w (GTick w g F q) := by
  have HH := Go.Lib.hid h
  have c2 := h.box.cell 2 rfl
  have HS : Hid (∀ q : Wh × List Int × Int, q = (x, [], 1) → GTick w g F q (.returned (.tuple #[.slice none 0 0, .int .i64 1])) w) := Go.Lib.hid (fun q hq => ⟨F, none, 0, by rw [hq]; rfl, by rw [hq]; exact ⟨⟨Nat.le_refl _, by omega, fun _ => rfl, .inl rfl⟩, fun ad e => by cases e⟩, by rw [hq]; exact ⟨g, rfl, .inl h⟩, fun b f => .inl f, Moves.refl _ _⟩)
  by_cases h0 : now < x.now
  · have HQ : Hid (q = (x, [], 1)) := Go.Lib.hid (by rw [← hq]; unfold tickH; rw [if_pos (by omega)])
    clear h hq
    go_enter Try.func14, Try.ntmps14
    go_wp2
    go_ret2
    exact HS.out q HQ.out
  by_cases h1 : 1099511627776 < now
  · have HQ : Hid (q = (x, [], 1)) := Go.Lib.hid (by rw [← hq]; unfold tickH; rw [if_pos (by omega)])
    clear h hq
    go_enter Try.func14, Try.ntmps14
    go_wp2
    go_ret2
    exact HS.out q HQ.out
  have HQ : Hid (q = (⟨[], now⟩, [], 0)) := Go.Lib.hid (by rw [← hq]; unfold tickH; rw [if_neg (by omega), h.empty]; simp [leftA, dueA, numsA])
  have HRW : Hid (RightW q.1) := Go.Lib.hid (by rw [← hq]; exact h.right.tick now)
  have HB := Go.Lib.hid h.box
  clear h hq HS
  go_enter Try.func14, Try.ntmps14
  go_upto_region 4 with (refine wpList_store_any rfl 3 _ _ rfl g 2 59 _ [.int .i64 now] _ rfl rfl rfl HB.out info_i1 (by show 2 + 1 ≤ 3; omega) (by simp [Value.oneCell']) ?_; intro w2 hb2 ho2; have HB2 : Hid (Bxo w2 g 59 [.slice none 0 0, .map none, .int .i64 now]) := Go.Lib.hid hb2; have HO2 := Go.Lib.hid ho2; clear hb2 ho2)
  clear c2
  have c0 := HB2.out.cell 0 rfl
  go_wp2_with fail
  go_loopw [6] (fun o wr => o = .slice none 0 0 ∧ wr = w2) (fun o _ => 0)
  case atStart => exact ⟨rfl, rfl⟩
  case round =>
    rename World => wo
    obtain ⟨rfl, rfl⟩ := hrel
    go_wp2
    go_ret2
    refine ⟨F, none, 0, by rw [HQ.out]; rfl, by rw [HQ.out]; exact ⟨⟨Nat.le_refl _, by omega, fun _ => rfl, .inl rfl⟩, fun ad e => by cases e⟩, ?_, fun b f => .inl f, gro_moves HO2.out.gro ((HH.out.blocks g).2 rfl)⟩
    have hr := HRW.out
    rw [HQ.out] at hr ⊢
    exact ⟨g, rfl, .inl ⟨HB2.out, rfl, HH.out.blocks, hr⟩⟩
end
/-- all that a wheel owes. -/
def kWheel : WheelC where
  Rep := WRep
  right := fun ⟨_, _, h⟩ => h.elim (fun h => h.right) (fun ⟨_, _, _, _, h⟩ => h.right)
  lt := fun ⟨_, _, h⟩ b hb => h.elim (fun h => by rw [(h.blocks b).1 hb]; exact h.box.lt) (fun ⟨_, _, _, _, h⟩ => h.mem.lt b hb)
  keep := fun ⟨g, e, h⟩ hk _ => ⟨g, e, h.elim (fun h => .inl (h.keep (hk g ((h.blocks g).2 rfl)))) (fun ⟨l, A, c, mb, h⟩ => .inr ⟨l, A, c, mb, h.mem.keep hk, h.perm, h.heap, h.right⟩)⟩
  new := gnew
  set := fun {w ad x F} ⟨g, e, h⟩ n t q hq => by subst e; exact h.elim (fun h => fset h n t q hq) (fun ⟨l, A, c, mb, h⟩ => gset h n t q hq)
  drop := fun {w ad x F} ⟨g, e, h⟩ n hn q hq => by subst e; exact h.elim (fun h => fdrop h n hn q hq) (fun ⟨l, A, c, mb, h⟩ => gdrop h n hn q hq)
  tick := fun {w ad x F} ⟨g, e, h⟩ now q hq => by subst e; exact h.elim (fun h => ftick h now q hq) (fun ⟨l, A, c, mb, h⟩ => gtick h now q hq)
  when_ := fun {w ad x F} ⟨g, e, h⟩ n hn q hq => by subst e; exact h.elim (fun h => fwhen h n hn q hq) (fun ⟨l, A, c, mb, h⟩ => gwhen h n hn q hq)
  waits := fun {w ad x F} ⟨g, e, h⟩ n hn => by subst e; exact h.elim (fun h => fwaits h n hn) (fun ⟨l, A, c, mb, h⟩ => gwaits h n hn)
  now_ := fun {w ad x F} ⟨g, e, h⟩ n hn => by subst e; exact h.elim (fun h => fnow h n hn) (fun ⟨l, A, c, mb, h⟩ => gnow h n hn)
set_option maxHeartbeats 4000000 in
theorem kNil : WheelN where
  set := fun n t w => by
    go_enter Try.func10, Try.ntmps10
    go_wp2
    go_ret
    exact ⟨rfl, Below.refl _ _⟩
  drop := fun n w => by
    go_enter Try.func12, Try.ntmps12
    go_wp2
    go_ret
    exact ⟨rfl, Below.refl _ _⟩
  tick := fun now w => by
    go_enter Try.func14, Try.ntmps14
    go_wp2
    go_ret2
    exact ⟨none, 0, rfl, Below.refl _ _⟩
  when_ := fun n w => by
    go_enter Try.func16, Try.ntmps16
    go_wp2
    go_ret2
    exact ⟨rfl, Below.refl _ _⟩
  waits := fun w => by
    go_enter Try.func18, Try.ntmps18
    go_wp2
    go_ret
    exact ⟨rfl, Below.refl _ _⟩
  now_ := fun w => by
    go_enter Try.func19, Try.ntmps19
    go_wp2
    go_ret
    exact ⟨rfl, Below.refl _ _⟩
end Go.Proofs.Ytebmomanpkmloaa
