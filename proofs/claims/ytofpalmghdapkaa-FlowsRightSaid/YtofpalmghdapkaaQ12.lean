/- Lemmas, several texts in one. -/
import Derived.Test.YtofpalmghdapkaaQ11
import Derived.Test.YtofpalmghdapkaaQ04
import Derived.Test.YtofpalmghdapkaaQ07
/- A wheel as a heap in a struct, its places in a map: Tick; all that a wheel owes. -/
namespace Go.Proofs.Ytofpalmghdapkaa
open Go.ChangeShapes Go.WideShapes Go.ChangeAt Go.RowKit
set_option linter.unusedVariables false
set_option linter.unusedSimpArgs false

theorem field_num (a b : Int) (W : World) : (Instr.field 104 (.agg #[.int .i64 a, .int .i64 b]) 0).run Try.prog W = .ok (.int .i64 a) W := by
  have z3 := Try.sizeOf3
  have u := Try.underlying104
  have a3 := Try.isAgg3
  unfold Instr.field
  go_simp
  rfl
/-- while what is due is taken off, one after another. -/
structure TkG (w : World) (g : Nat) (x : Wh) (now : Int) (F : Nat → Prop) (wr : World) (lc : List Al) (dn : List Int) (B : Option Addr) (d : Nat) : Prop where
  rep : (heapG g now).Rep wr lc F
  heap : HeapA lc lc.length
  own : wr.ownsRow w.heap.size 3 1 (.slice B dn.length d) dn.length (dn.map (fun n => Value.int .i64 n))
  due : dn ++ numsA (dueA lc now) = numsA (dueA x.list now)
  left : (leftA lc now).Perm (leftA x.list now)
  len : dn.length + lc.length = x.list.length
  moves : Moves w wr F
  fresh : ∀ b, F b → b < w.heap.size
/-- what Tick hands back. -/
def GTick (w : World) (g : Nat) (F : Nat → Prop) (q : Wh × List Int × Int) (e : Ending) (w' : World) : Prop := ∃ F' A c, e = .returned (.tuple #[.slice A q.2.1.length c, .int .i64 q.2.2]) ∧ DueAt w w' F' q.2.1 A c ∧ WRep w' ⟨g, 0, none⟩ q.1 F' ∧ Newer w F F' ∧ Moves w w' F
section
variable {w : World} {g : Nat} {l : List Al} {x : Wh} {F : Nat → Prop} {A : Option Addr} {c mb : Nat}
theorem GTick.same {q : Wh × List Int × Int} (hq : q = (x, [], 1)) (h : WR w g l x F A c mb) : GTick w g F q (.returned (.tuple #[.slice none 0 0, .int .i64 1])) w :=
  ⟨F, none, 0, by rw [hq]; rfl, by rw [hq]; exact ⟨⟨Nat.le_refl _, by omega, fun _ => rfl, .inl rfl⟩, fun ad e => by cases e⟩, by rw [hq]; exact ⟨g, rfl, .inr ⟨l, A, c, mb, h⟩⟩, fun b f => .inl f, Moves.refl _ _⟩
theorem GTick.fin {now : Int} {q : Wh × List Int × Int} {w' : World} {lc : List Al} {dn : List Int} {B : Option Addr} {d : Nat} (hq : q = (⟨leftA x.list now, now⟩, numsA (dueA x.list now), 0)) (hr : RightW q.1) (h : TkG w g x now F w' lc dn B d) (he : lc.length = 0 ∨ now < (atA lc 0).at_) : GTick w g F q (.returned (.tuple #[.slice B dn.length d, .int .i64 0])) w' := by
  obtain ⟨e1, e2⟩ := due_none h.heap he
  have hd := h.due
  have hl := h.left
  rw [e1] at hd
  rw [e2] at hl
  have hd' : numsA (dueA x.list now) = dn := by rw [← hd]; simp [numsA]
  subst hq
  refine ⟨F, B, d, by dsimp only; rw [hd'], ?_, WRep.of (x' := ⟨leftA x.list now, now⟩) h.rep hl h.heap hr, fun b f => .inl f, h.moves⟩
  dsimp only
  rw [hd']
  refine ⟨InsAt.ofOwn rfl h.own, fun ad e => ?_⟩
  have h1 := own_geI h.own ad.block (by rw [e]; rfl)
  exact ⟨h1, own_ltI h.own ad.block (by rw [e]; rfl), fun f => by have := h.fresh _ f; omega⟩
set_option maxRecDepth 100000 in
set_option maxHeartbeats 8000000 in
theorem gtick (h : WR w g l x F A c mb) (now : Int) (q : Wh × List Int × Int) (hq : tickH x now = q) :
    Calls Try.prog 38 #[.pointer (some ⟨g, 0, none⟩), .int .i64 now] w (GTick w g F q) := by
  have hm := h.mem
  have HH := Go.Lib.hid h
  have c2 := hm.box.cell 2 rfl
  by_cases h0 : now < x.now
  · have HQ : Hid (q = (x, [], 1)) := Go.Lib.hid (by rw [← hq]; unfold tickH; rw [if_pos (by omega)])
    clear hm h hq
    go_enter Try.func38, Try.ntmps38
    go_wp2
    go_ret2
    exact GTick.same HQ.out HH.out
  by_cases h1 : 1099511627776 < now
  · have HQ : Hid (q = (x, [], 1)) := Go.Lib.hid (by rw [← hq]; unfold tickH; rw [if_pos (by omega)])
    clear hm h hq
    go_enter Try.func38, Try.ntmps38
    go_wp2
    go_ret2
    exact GTick.same HQ.out HH.out
  have HQ : Hid (q = (⟨leftA x.list now, now⟩, numsA (dueA x.list now), 0)) := Go.Lib.hid (by rw [← hq]; unfold tickH; rw [if_neg (by omega)])
  have HRW : Hid (RightW q.1) := Go.Lib.hid (by rw [← hq]; exact h.right.tick now)
  have HB := Go.Lib.hid hm.box
  have hFg : F g := (hm.blocks g).2 (.inl rfl)
  have HG : Hid (∀ w2, Only g w w2 → Bxo w2 g 96 [.slice A l.length c, .map (some mb), .int .i64 now] → TkG w g x now F w2 l [] none 0) := Go.Lib.hid (fun w2 ho hb => by
    refine ⟨⟨A, c, mb, ⟨hb, own_keepA hm.row (fun b e => ho.block b (fun e' => hm.g2 (by rw [e, e']))), hm.map.keep (ho.block mb (Ne.symm hm.g1)), hm.blocks, hm.g1, hm.g2, hm.g3, hm.once, hm.rng, hm.size⟩⟩, h.heap, own_none _ _ _ _, ?_, left_perm h.perm now, ?_, gro_moves ho.gro hFg, fun b hb => hm.lt b hb⟩
    · rw [due_eq h.perm]; rfl
    · rw [h.perm.length_eq]; simp)
  have hxl : x.list.length ≤ 256 := h.right.size
  obtain ⟨i0_, hi_, hz0, hz1, hz2⟩ := info_parts info_iz
  clear hm h hq
  go_enter Try.func38, Try.ntmps38
  go_upto_region 4 with (refine wpList_store_any rfl 3 _ _ rfl g 2 96 _ [.int .i64 now] _ rfl rfl rfl HB.out info_i1 (by show 2 + 1 ≤ 3; omega) (by simp [Value.oneCell']) ?_; intro w2 hb2 ho2; have HI0 := Go.Lib.hid (HG.out w2 ho2 hb2); clear hb2 ho2)
  clear HG HB c2
  go_wp2_with fail
  go_loopw [6] (fun o wr => ∃ (lc : List Al) (dn : List Int) (B : Option Addr) (d : Nat), o = .slice B dn.length d ∧ Hid (TkG w g x now F wr lc dn B d)) (fun o _ => x.list.length + 1 - lenV o)
  case atStart => exact ⟨l, [], none, 0, rfl, HI0⟩
  case round =>
    rename World => wo
    obtain ⟨lc, dn, B, d, rfl, HI⟩ := hrel
    have hlen := HI.out.len
    clear HI0
    obtain ⟨A1, c1, mb1, hg1⟩ := HI.out.rep
    have c0 := hg1.box.cell 0 rfl
    by_cases hl0 : lc.length = 0
    · have HE : Hid (lc.length = 0 ∨ now < (atA lc 0).at_) := Go.Lib.hid (.inl hl0)
      rw [hl0] at c0
      clear hg1
      go_wp2
      go_ret2
      exact GTick.fin HQ.out HRW.out HI.out HE.out
    · obtain ⟨r, rfl, _, hcr⟩ := hg1.cell (show 0 < lc.length by omega)
      have hc0 := hcr wo rfl
      obtain ⟨a, ha⟩ : ∃ a, atA lc 0 = a := ⟨_, rfl⟩
      rw [ha] at hc0
      have HA := Go.Lib.hid ha
      have d1 := hc0 1 _ rfl
      rw [Addr.add_mid] at d1
      obtain ⟨m, hm'⟩ : ∃ m, lc.length = m := ⟨_, rfl⟩
      have HM' := Go.Lib.hid hm'
      rw [hm'] at c0 hlen hl0
      have m1 : (0 : Int) < (m : Int) := by omega
      obtain ⟨an, at_⟩ := a
      dsimp only at d1
      have HR := Go.Lib.hid (⟨_, c1, mb1, hg1⟩ : (heapG g now).Rep wo lc F)
      clear hg1 hcr hc0 ha hm'
      by_cases hd : at_ ≤ now
      · have HD := Go.Lib.hid hd
        have hgeB : ∀ b, blk B = some b → w.heap.size ≤ b := fun b e => own_geI HI.out.own b e
        have hnF : ∀ b, blk B = some b → ¬ F b := fun b e f => by have h1 := hgeB b e; have h2 := HI.out.fresh b f; omega
        have HNF := Go.Lib.hid hnF
        have HGE := Go.Lib.hid hgeB
        have fnum := field_num an at_
        clear hgeB hnF
        go_wp2_with (first
          | (go_at_call 49; refine (gtake HR.out 0 (by rw [HM'.out]; omega) HI.out.heap ⟨an, at_⟩ HA.out).mono ?_; rintro e w1 ⟨rfl, l1, r1, m1', p1, h1'⟩; have HR1 := Go.Lib.hid r1; have HM1 := Go.Lib.hid m1'; have HP1 := Go.Lib.hid p1; have HH1 := Go.Lib.hid h1'; have HO1 := Go.Lib.hid (own_keepA (w' := w1) HI.out.own (fun b e => m1'.block b (own_ltI HI.out.own b e) (HNF.out b e))); have HM3 := Go.Lib.hid (HI.out.moves.trans m1'); have hs3 := HM3.out.size; clear r1 m1' p1 h1' c0 d1; dsimp only)
          | (at_builtin; refine wpList_append_rdK rfl _ _ 85 rfl w.heap.size 3 i0_ _ 1 8 Try.underlying85 hi_ hz0 hz1 hz2 rfl (by omega) (.slice B dn.length d) dn.length (dn.map (fun n => Value.int .i64 n)) rfl (own_keepA HO1.out (fun b e => Below.heap_alloc w1 _ b (own_ltI HO1.out b e))) (some ⟨w1.heap.size, 0, none⟩) 1 1 [.int .i64 an] rfl rfl (fun e => by cases e) (.inr ⟨_, rfl, (Bxo.made w1 3 [.int .i64 an]).at⟩) (by simp [Value.oneCell']) (by unfold maxLen; omega) (by omega) (by simp; omega) ?_; intro v10 w10 ho10 hg10 hat10; obtain ⟨A10, c10, rfl⟩ := own_slice ho10; rw [ownBlock_blk] at hg10; have HO10 := Go.Lib.hid ho10; have HG10 := Go.Lib.hid hg10; clear ho10 hg10 hat10; dsimp only))
        obtain ⟨e1, e2⟩ := due_first HI.out.heap (by rw [HA.out]; exact HP1.out) (by rw [HA.out]; exact HD.out)
        have hlen1 := HP1.out.length_eq
        rw [HM'.out, List.length_cons] at hlen1
        have hz3 : (w1.alloc (.cells #[.int .i64 an] 3)).heap.size = w1.heap.size + 1 := by simp
        have hsz := HG10.out.size
        go_round
        case rel => exact ⟨l1, dn ++ [an], A10, c10, by rw [List.length_append]; rfl, Go.Lib.hid ⟨
          (heapG g now).keep HR1.out (fun b hb => (HG10.out.block b (by have := (heapG g now).lt HR1.out b hb; omega) (fun e => HNF.out b e.symm hb)).trans (Below.heap_alloc w1 _ b ((heapG g now).lt HR1.out b hb))) (by omega),
          HH1.out, by rw [List.length_append, List.map_append]; exact HO10.out,
          by rw [← HI.out.due, e1, HA.out]; simp [numsA], e2.trans HI.out.left, by rw [List.length_append]; show dn.length + 1 + _ = _; omega,
          ⟨HG10.out.os.trans HM3.out.os, HG10.out.tape.trans HM3.out.tape, HG10.out.output.trans HM3.out.output, by omega, fun k hk hn => ((HG10.out.block k (by omega) (fun e => by have := HGE.out k e.symm; omega)).trans (Below.heap_alloc w1 _ k (by omega))).trans (HM3.out.block k hk hn)⟩,
          HI.out.fresh⟩⟩
        case measure => simp only [lenV]; omega
      · have HE : Hid (lc.length = 0 ∨ now < (atA lc 0).at_) := Go.Lib.hid (.inr (by rw [HA.out]; show now < at_; omega))
        go_wp2
        go_ret2
        exact GTick.fin HQ.out HRW.out HI.out HE.out
end
section
variable {w : World} {g : Nat} {x : Wh} {F : Nat → Prop}
set_option maxRecDepth 100000 in
set_option maxHeartbeats 8000000 in
theorem ftick (h : WF w g x F) (now : Int) (q : Wh × List Int × Int) (hq : tickH x now = q) :
    Calls Try.prog 38 #[.pointer (some ⟨g, 0, none⟩), .int .i64 now] w (GTick w g F q) := by
  have HH := Go.Lib.hid h
  have c2 := h.box.cell 2 rfl
  have HS : Hid (∀ q : Wh × List Int × Int, q = (x, [], 1) → GTick w g F q (.returned (.tuple #[.slice none 0 0, .int .i64 1])) w) := Go.Lib.hid (fun q hq => ⟨F, none, 0, by rw [hq]; rfl, by rw [hq]; exact ⟨⟨Nat.le_refl _, by omega, fun _ => rfl, .inl rfl⟩, fun ad e => by cases e⟩, by rw [hq]; exact ⟨g, rfl, .inl h⟩, fun b f => .inl f, Moves.refl _ _⟩)
  by_cases h0 : now < x.now
  · have HQ : Hid (q = (x, [], 1)) := Go.Lib.hid (by rw [← hq]; unfold tickH; rw [if_pos (by omega)])
    clear h hq
    go_enter Try.func38, Try.ntmps38
    go_wp2
    go_ret2
    exact HS.out q HQ.out
  by_cases h1 : 1099511627776 < now
  · have HQ : Hid (q = (x, [], 1)) := Go.Lib.hid (by rw [← hq]; unfold tickH; rw [if_pos (by omega)])
    clear h hq
    go_enter Try.func38, Try.ntmps38
    go_wp2
    go_ret2
    exact HS.out q HQ.out
  have HQ : Hid (q = (⟨[], now⟩, [], 0)) := Go.Lib.hid (by rw [← hq]; unfold tickH; rw [if_neg (by omega), h.empty]; simp [leftA, dueA, numsA])
  have HRW : Hid (RightW q.1) := Go.Lib.hid (by rw [← hq]; exact h.right.tick now)
  have HB := Go.Lib.hid h.box
  clear h hq HS
  go_enter Try.func38, Try.ntmps38
  go_upto_region 4 with (refine wpList_store_any rfl 3 _ _ rfl g 2 96 _ [.int .i64 now] _ rfl rfl rfl HB.out info_i1 (by show 2 + 1 ≤ 3; omega) (by simp [Value.oneCell']) ?_; intro w2 hb2 ho2; have HB2 : Hid (Bxo w2 g 96 [.slice none 0 0, .map none, .int .i64 now]) := Go.Lib.hid hb2; have HO2 := Go.Lib.hid ho2; clear hb2 ho2)
  clear c2
  have c0 := HB2.out.cell 0 rfl
  go_wp2_with fail
  go_loopw [6] (fun o wr => o = .slice none 0 0 ∧ wr = w2) (fun o _ => 0)
  case atStart => exact ⟨rfl, rfl⟩
  case round =>
    rename World => wo
    obtain ⟨rfl, rfl⟩ := hrel
    go_wp2
    go_ret2
    refine ⟨F, none, 0, by rw [HQ.out]; rfl, by rw [HQ.out]; exact ⟨⟨Nat.le_refl _, by omega, fun _ => rfl, .inl rfl⟩, fun ad e => by cases e⟩, ?_, fun b f => .inl f, gro_moves HO2.out.gro ((HH.out.blocks g).2 rfl)⟩
    have hr := HRW.out
    rw [HQ.out] at hr ⊢
    exact ⟨g, rfl, .inl ⟨HB2.out, rfl, HH.out.blocks, hr⟩⟩
end
/-- all that a wheel owes. -/
def kWheelB : WheelB where
  Rep := WRep
  right := fun ⟨_, _, h⟩ => h.elim (fun h => h.right) (fun ⟨_, _, _, _, h⟩ => h.right)
  lt := fun ⟨_, _, h⟩ b hb => h.elim (fun h => by rw [(h.blocks b).1 hb]; exact h.box.lt) (fun ⟨_, _, _, _, h⟩ => h.mem.lt b hb)
  keep := fun ⟨g, e, h⟩ hk _ => ⟨g, e, h.elim (fun h => .inl (h.keep (hk g ((h.blocks g).2 rfl)))) (fun ⟨l, A, c, mb, h⟩ => .inr ⟨l, A, c, mb, h.mem.keep hk, h.perm, h.heap, h.right⟩)⟩
  new := gnew
  set := fun {w ad x F} ⟨g, e, h⟩ n t q hq => by subst e; exact h.elim (fun h => fset h n t q hq) (fun ⟨l, A, c, mb, h⟩ => gset h n t q hq)
  drop := fun {w ad x F} ⟨g, e, h⟩ n hn q hq => by subst e; exact h.elim (fun h => fdrop h n hn q hq) (fun ⟨l, A, c, mb, h⟩ => gdrop h n hn q hq)
  tick := fun {w ad x F} ⟨g, e, h⟩ now q hq => by subst e; exact h.elim (fun h => ftick h now q hq) (fun ⟨l, A, c, mb, h⟩ => gtick h now q hq)
def kWheel : WheelC where
  toWheelB := kWheelB
  when_ := fun {w ad x F} ⟨g, e, h⟩ n hn q hq => by subst e; exact h.elim (fun h => fwhen h n hn q hq) (fun ⟨l, A, c, mb, h⟩ => gwhen h n hn q hq)
  waits := fun {w ad x F} ⟨g, e, h⟩ n hn => by subst e; exact h.elim (fun h => fwaits h n hn) (fun ⟨l, A, c, mb, h⟩ => gwaits h n hn)
  now_ := fun {w ad x F} ⟨g, e, h⟩ n hn => by subst e; exact h.elim (fun h => fnow h n hn) (fun ⟨l, A, c, mb, h⟩ => gnow h n hn)
set_option maxHeartbeats 4000000 in
theorem kNil : WheelN where
  set := fun n t w => by
    go_enter Try.func39, Try.ntmps39
    go_wp2
    go_ret
    exact ⟨rfl, Below.refl _ _⟩
  drop := fun n w => by
    go_enter Try.func36, Try.ntmps36
    go_wp2
    go_ret
    exact ⟨rfl, Below.refl _ _⟩
  tick := fun now w => by
    go_enter Try.func38, Try.ntmps38
    go_wp2
    go_ret2
    exact ⟨none, 0, rfl, Below.refl _ _⟩
  when_ := fun n w => by
    go_enter Try.func48, Try.ntmps48
    go_wp2
    go_ret2
    exact ⟨rfl, Below.refl _ _⟩
  waits := fun w => by
    go_enter Try.func40, Try.ntmps40
    go_wp2
    go_ret
    exact ⟨rfl, Below.refl _ _⟩
  now_ := fun w => by
    go_enter Try.func30, Try.ntmps30
    go_wp2
    go_ret
    exact ⟨rfl, Below.refl _ _⟩
end Go.Proofs.Ytofpalmghdapkaa

/- The landed store of flows in memory; has, knows, Find, Get, Len, mayBe, free. -/
namespace Go.Proofs.Ytofpalmghdapkaa
open Go.ChangeShapes Go.WideShapes Go.ChangeAt Go.RowKit
set_option linter.unusedVariables false
set_option linter.unusedSimpArgs false

theorem Moves.mono {w w' : World} {F F' : Nat → Prop} (h : Moves w w' F) (hF : ∀ b, F b → F' b) : Moves w w' F' := ⟨h.os, h.tape, h.output, h.size, fun k hk hn => h.block k hk (fun f => hn (hF k f))⟩
theorem CsAt.keepB {w w' : World} {l : List Cl} {A : Option Addr} {c : Nat} (h : CsAt w l A c) (hk : ∀ ad, A = some ad → w'.heap[ad.block]? = w.heap[ad.block]?) : CsAt w' l A c := by
  refine ⟨h.len, h.cap, h.nil, h.rng, ?_⟩
  rcases h.rd with h0 | ⟨ad, e, hc⟩
  · exact .inl h0
  · refine .inr ⟨ad, e, fun j u hj => ?_⟩
    have q := World.cell?_of_block (w := w) (w' := w') (a := ad.add j) (by rw [block_add]; exact hk ad e)
    rw [q]
    exact hc j u hj
theorem CsAt.lt {w : World} {l : List Cl} {A : Option Addr} {c : Nat} (h : CsAt w l A c) (h0 : 0 < l.length) : ∀ ad, A = some ad → ad.block < w.heap.size := fun ad e => by
  obtain ⟨ad', e', hc⟩ := h.cell h0
  rw [e] at e'
  cases e'
  have := World.block_lt_of_cell? w _ (hc w (Below.refl _ _) 0 _ rfl)
  rw [block_add, block_add] at this
  exact this
abbrev fsL (sb n : Nat) (T : Option Addr) (N c : Nat) (wd : Addr) : List Value := [.slice (some ⟨sb, 0, none⟩) n n, .slice T N c, .pointer (some wd)]
theorem info_fs : (Try.prog.info? 75).map (·.size) = some 3 := by kernel_rfl
/-- a store's blocks. -/
def FB (g sb : Nat) (T : Option Addr) (FW : Nat → Prop) (b : Nat) : Prop := b = g ∨ b = sb ∨ (∃ ad, T = some ad ∧ ad.block = b) ∨ FW b
/-- a store in memory: a struct in block g, a row of slots, a table, a wheel. -/
structure FR (w : World) (g sb n N : Nat) (l : List (Option Fl)) (t : List Cl) (T : Option Addr) (c : Nat) (wd : Addr) (x : Wh) (FW : Nat → Prop) : Prop where
  box : Bxo w g 75 (fsL sb n T N c wd)
  len : l.length = n
  row : Bxo w sb 40 ((flowsF l).flatMap Fl.L)
  tab : CsAt w t T c
  tlen : t.length = N
  n0 : 0 < N
  whl : kWheel.Rep w wd x FW
  gs : g ≠ sb
  gT : ∀ ad, T = some ad → ad.block ≠ g ∧ ad.block ≠ sb ∧ ¬ FW ad.block
  gW : ¬ FW g ∧ ¬ FW sb
section
variable {w w' : World} {g sb n N c : Nat} {l : List (Option Fl)} {t : List Cl} {T : Option Addr} {wd : Addr} {x : Wh} {FW : Nat → Prop}
theorem FR.lt (h : FR w g sb n N l t T c wd x FW) : ∀ b, FB g sb T FW b → b < w.heap.size := fun b hb => by
  rcases hb with rfl | rfl | ⟨ad, e, rfl⟩ | hb
  · exact h.box.lt
  · exact h.row.lt
  · exact h.tab.lt (by rw [h.tlen]; exact h.n0) ad e
  · exact kWheel.lt h.whl b hb
theorem FR.keep (h : FR w g sb n N l t T c wd x FW) (hk : ∀ b, FB g sb T FW b → w'.heap[b]? = w.heap[b]?) (hs : w.heap.size ≤ w'.heap.size) : FR w' g sb n N l t T c wd x FW :=
  ⟨(hk g (.inl rfl)).trans h.box, h.len, (hk sb (.inr (.inl rfl))).trans h.row, h.tab.keepB (fun ad e => hk ad.block (.inr (.inr (.inl ⟨ad, e, rfl⟩)))), h.tlen, h.n0, kWheel.keep h.whl (fun b hb => hk b (.inr (.inr (.inr hb)))) hs, h.gs, h.gT, h.gW⟩
theorem FR.call (h : FR w g sb n N l t T c wd x FW) (y : Below w.heap.size w w') : FR w' g sb n N l t T c wd x FW := h.keep (fun b hb => y.block b (h.lt b hb)) y.size
theorem FR.drew (h : FR w g sb n N l t T c wd x FW) : FR w.drew g sb n N l t T c wd x FW := h.call (below_drew (Below.refl _ _))
/-- the wheel has turned. -/
theorem FR.wheel (h : FR w g sb n N l t T c wd x FW) {x' : Wh} {FW' : Nat → Prop} (r : kWheel.Rep w' wd x' FW') (nw : Newer w FW FW') (m : Moves w w' FW) : FR w' g sb n N l t T c wd x' FW' := by
  have no : ∀ b, FB g sb T FW b → ¬ FW b → ¬ FW' b := fun b hb hn f => (nw b f).elim hn (fun q => by have := h.lt b hb; omega)
  have hT : ∀ ad, T = some ad → FB g sb T FW ad.block := fun ad e => .inr (.inr (.inl ⟨ad, e, rfl⟩))
  exact ⟨(m.block g h.box.lt h.gW.1).trans h.box, h.len, (m.block sb h.row.lt h.gW.2).trans h.row, h.tab.keepB (fun ad e => m.block _ (h.lt _ (hT ad e)) (h.gT ad e).2.2), h.tlen, h.n0, r, h.gs,
    fun ad e => ⟨(h.gT ad e).1, (h.gT ad e).2.1, no _ (hT ad e) (h.gT ad e).2.2⟩, no _ (.inl rfl) h.gW.1, no _ (.inr (.inl rfl)) h.gW.2⟩
/-- a slot is written. -/
theorem FR.slot (h : FR w g sb n N l t T c wd x FW) {i : Nat} (hi : i < n) (o : Option Fl) (hb : Bxo w' sb 40 (spl ((flowsF l).flatMap Fl.L) (i * 12) (flL (o.getD fl0)))) (ho : Only sb w w') : FR w' g sb n N (l.set i o) t T c wd x FW := by
  have e := spl_flat Fl.L 12 Fl.len (flowsF l) i (o.getD fl0) (by rw [flows_len, h.len]; exact hi)
  rw [← flows_set] at e
  refine ⟨h.box.only ho h.gs, by rw [List.length_set]; exact h.len, by rw [← e]; exact hb, h.tab.keepB (fun ad e => ho.block _ (h.gT ad e).2.1), h.tlen, h.n0, kWheel.keep h.whl (fun b hb => ho.block b (fun e => h.gW.2 (e ▸ hb))) (Nat.le_of_eq ho.size.symm), h.gs, h.gT, h.gW⟩
/-- a table is stored. -/
theorem FR.table (h : FR w g sb n N l t T c wd x FW) {t' : List Cl} {T' : Option Addr} {c' : Nat} (hb : Bxo w' g 75 (fsL sb n T' N c' wd)) (ho : Only g w w') (ht : CsAt w t' T' c') (hl : t'.length = N) (hT : ∀ ad, T' = some ad → ad.block ≠ g ∧ ad.block ≠ sb ∧ ¬ FW ad.block) : FR w' g sb n N l t' T' c' wd x FW :=
  ⟨hb, h.len, h.row.only ho (Ne.symm h.gs), ht.keepB (fun ad e => ho.block _ (hT ad e).1), hl, h.n0, kWheel.keep h.whl (fun b hb => ho.block b (fun e => h.gW.1 (e ▸ hb))) (Nat.le_of_eq ho.size.symm), h.gs, hT, h.gW⟩
/-- a table that is answered stands apart. -/
theorem FR.apart (h : FR w g sb n N l t T c wd x FW) {T' : Option Addr} (hT : T' = T ∨ ∀ ad, T' = some ad → w.heap.size ≤ ad.block) : (∀ ad, T' = some ad → ad.block ≠ g ∧ ad.block ≠ sb ∧ ¬ FW ad.block) ∧ Newer w (FB g sb T FW) (FB g sb T' FW) := by
  rcases hT with rfl | hT
  · exact ⟨h.gT, fun b hb => .inl hb⟩
  · refine ⟨fun ad e => ⟨fun q => ?_, fun q => ?_, fun q => ?_⟩, fun b hb => ?_⟩
    · have h1 := hT ad e; have h2 := h.box.lt; omega
    · have h1 := hT ad e; have h2 := h.row.lt; omega
    · have h1 := hT ad e; have h2 := kWheel.lt h.whl _ q; omega
    · rcases hb with h1 | h1 | ⟨ad, e, rfl⟩ | h1
      · exact .inl (.inl h1)
      · exact .inl (.inr (.inl h1))
      · exact .inr (hT ad e)
      · exact .inl (.inr (.inr (.inr h1)))
/-- a slot's cells. -/
theorem FR.cell (h : FR w g sb n N l t T c wd x FW) {i : Nat} (hi : i < n) : ∀ j v, (flL ((slotF l i).getD fl0))[j]? = some v → w.cell? ((⟨sb, i * 12, none⟩ : Addr).add j) = some v := by
  refine h.row.mid (i * 12) _ fun j v hj => ?_
  have hl : i < l.length := by rw [h.len]; exact hi
  have hj' : j < 12 := by have := (List.getElem?_eq_some_iff.1 hj).1; simpa using this
  rw [flat_get Fl.L 12 Fl.len (flowsF l) i j (by rw [flows_len]; exact hl) hj', flows_get hl]
  exact hj
/-- a wheel's alarm of a number. -/
theorem WhS.when {s : Sr} (h : WhS x s) (num : Int) : ∃ a, whenH x num = (a, (thereF s num).isSome) := by
  cases ho : thereF s num with
  | some f =>
    obtain ⟨i, rfl, hs⟩ := there_iff ho
    obtain ⟨p, hp, h1, _⟩ := alF_find hs
    exact ⟨_, when_some h.perm h.right.once h1⟩
  | none =>
    refine ⟨0, when_none h.perm (find_not fun a ha e => ?_)⟩
    obtain ⟨j, f, hj, rfl⟩ := alF_mem.1 ha
    have e' : (j : Int) = num := e
    rw [← e', there_nat, hj] at ho
    cases ho
theorem WhS.drop_no {s : Sr} (h : WhS x s) {num : Int} (ho : thereF s num = none) : dropH x num = (x, 9) := by
  refine drop_none h.perm (find_not fun a ha e => ?_)
  obtain ⟨j, f, hj, rfl⟩ := alF_mem.1 ha
  have e' : (j : Int) = num := e
  rw [← e', there_nat, hj] at ho
  cases ho
set_option maxHeartbeats 4000000 in
theorem chas (h : FR w g sb n N l t T c wd x FW) (num : Int) (hn : I64 num) (b : Bool) (hq : ∃ a, whenH x num = (a, b)) :
    Calls Try.prog 35 #[.pointer (some ⟨g, 0, none⟩), .int .i64 num] w fun e w' => e = .returned (.bool b) ∧ Below w.heap.size w w' := by
  obtain ⟨a, hq⟩ := hq
  have c2 := h.box.cell 2 rfl
  have HW := Go.Lib.hid h.whl
  have HI := Go.Lib.hid hn
  have HQ := Go.Lib.hid hq
  clear h hn hq
  go_enter Try.func35, Try.ntmps35
  go_wp2_with (go_at_call 48; refine (kWheel.when_ HW.out num HI.out _ HQ.out).mono ?_; rintro e w1 ⟨rfl, y1⟩; dsimp only)
  go_ret
  exact ⟨rfl, y1⟩
set_option maxHeartbeats 4000000 in
theorem clen12 (h : FR w g sb n N l t T c wd x FW) (m : Int) (hm : (x.list.length : Int) = m) :
    Calls Try.prog 16 #[.pointer (some ⟨g, 0, none⟩)] w fun e w' => e = .returned (.int .i64 m) ∧ Below w.heap.size w w' := by
  have c2 := h.box.cell 2 rfl
  have HW := Go.Lib.hid h.whl
  have HQ := Go.Lib.hid hm
  clear h hm
  go_enter Try.func16, Try.ntmps16
  go_wp2_with (go_at_call 40; refine (kWheel.waits HW.out m HQ.out).mono ?_; rintro e w1 ⟨rfl, y1⟩; dsimp only)
  go_ret
  exact ⟨rfl, y1⟩
set_option maxRecDepth 100000 in
set_option maxHeartbeats 4000000 in
theorem cknows (h : FR w g sb n N l t T c wd x FW) (hbig : N ≤ 1024) (k : Tp) (rk : RngTp k) (q : Int × Bool) (hq : getC t k = q) :
    Calls Try.prog 31 #[.pointer (some ⟨g, 0, none⟩), tpV k] w fun e w' => e = .returned (.bool q.2) ∧ Below w.heap.size w w' := by
  have y0 : Below w.heap.size w (w.alloc (oTp k)) := (Below.refl _ _).alloc (Nat.le_refl _) _
  have hbx := Bxo.made w 38 (tpL k)
  have HR := Go.Lib.hid (h.call y0)
  have RK := Go.Lib.hid rk
  have HQ := Go.Lib.hid hq
  clear h rk hq
  go_enter Try.func31, Try.ntmps31
  go_upto_region 1 with fail
  generalize w.alloc (oTp k) = W at *
  have HK := Go.Lib.hid hbx
  have HTB := Go.Lib.hid HR.out.tab
  have HL := Go.Lib.hid HR.out.tlen
  have HC1 : Hid (∀ Y, Below W.heap.size W Y → Y.cell? ⟨g, 1, none⟩ = some (.slice T N c)) := Go.Lib.hid (fun Y y => (HR.out.box.keep y HR.out.box.lt).cell 1 rfl)
  clear hbx
  try simp only [Act.put, List.setIfInBounds_toArray, List.set_cons_zero, List.set_cons_succ]
  refine wp_region_held_drew (S := fun Y => Below W.heap.size W Y) (by kernel_rfl) ?_ (fun hHeld => ?_)
  · exact below_drew (Below.refl _ _)
  refine wpAnyH_take (i := 0) (oi := ⟨some 8, _, _, _, _, _⟩) (v := ?_) rfl (by kernel_rfl) (by kernel_rfl) (by kernel_rfl) (fun _ _ _ h => h) (Or.inl ⟨by rfl, ?_⟩) (by assumption) ?_
  rotate_left
  · intro w hSw; (try dsimp only at hSw); go_simp; (try with_reducible rfl)
  try simp only [Act.put, List.setIfInBounds_toArray, List.set_cons_zero, List.set_cons_succ]
  refine wpAnyH_take (i := 1) (oi := ⟨some 9, _, _, _, _, _⟩) (v := ?_) rfl (by kernel_rfl) (by kernel_rfl) (by kernel_rfl) (fun _ _ _ h => h) (Or.inl ⟨by rfl, ?_⟩) (by assumption) ?_
  rotate_left
  · intro w hSw; (try dsimp only at hSw); go_simp; (try with_reducible rfl)
  try simp only [Act.put, List.setIfInBounds_toArray, List.set_cons_zero, List.set_cons_succ]
  refine wpAnyH_take (i := 2) (oi := ⟨some 10, _, _, _, _, _⟩) (v := ?_) rfl (by kernel_rfl) (by kernel_rfl) (by kernel_rfl) (fun _ _ _ h => h) (Or.inl ⟨by rfl, ?_⟩) (by assumption) ?_
  rotate_left
  · intro w hSw; (try dsimp only at hSw); go_simp; (try with_reducible rfl)
  try simp only [Act.put, List.setIfInBounds_toArray, List.set_cons_zero, List.set_cons_succ]
  refine wpAnyH_take (i := 3) (oi := ⟨some 11, _, _, _, _, _⟩) (v := ?_) rfl (by kernel_rfl) (by kernel_rfl) (by kernel_rfl) (fun _ _ _ h => h) (Or.inl ⟨by rfl, ?_⟩) (by assumption) ?_
  rotate_left
  · intro w hSw; have zc := HC1.out _ hSw; (try dsimp only at hSw); go_simp; (try with_reducible rfl)
  try simp only [Act.put, List.setIfInBounds_toArray, List.set_cons_zero, List.set_cons_succ]
  refine wpAnyH_take (i := 4) (oi := ⟨some 12, _, _, _, _, _⟩) (v := (tpV k)) rfl (by kernel_rfl) (by kernel_rfl) (by kernel_rfl) (fun _ _ _ h => h) (yieldsIf_load_at (by rfl) 38 _ rfl ⟨w.heap.size, 0, none⟩ rfl (tpL k) _ (fun Y y => (HK.out.keep y HK.out.lt).at) Try.underlying38 rfl info_tp) (by assumption) ?_
  try simp only [Act.put, List.setIfInBounds_toArray, List.set_cons_zero, List.set_cons_succ]
  refine wpAnyH_ready (rs := [5]) (by kernel_rfl) (by simp) (AllReadyH.cons (o := ⟨some 13, _, _, _, _, _⟩) rfl (fun Kc hKc => ?_) AllReadyH.nil)
  go_simp
  go_at_call 34; refine (cget10 t T c N k _ _ HL.out (HTB.out.at (below_drew (Below.refl _ _))) hbig RK.out HQ.out).mono ?_; rintro e w1 ⟨rfl, y1⟩; dsimp only
  refine hKc.out _ _ (hHeld.trans (y1.mono hHeld.size)) (fun hHeld => ?_)
  clear hKc Kc
  try simp only [Act.put, List.setIfInBounds_toArray, List.set_cons_zero, List.set_cons_succ]
  refine wpAnyH_take (i := 6) (oi := ⟨some 7, _, _, _, _, _⟩) (v := ?_) rfl (by kernel_rfl) (by kernel_rfl) (by kernel_rfl) (fun _ _ _ h => h) (Or.inl ⟨by rfl, ?_⟩) (by assumption) ?_
  rotate_left
  · intro w hSw; (try dsimp only at hSw); go_simp; (try with_reducible rfl)
  try simp only [Act.put, List.setIfInBounds_toArray, List.set_cons_zero, List.set_cons_succ]
  refine wpAnyH_take (i := 7) (oi := ⟨some 14, _, _, _, _, _⟩) (v := ?_) rfl (by kernel_rfl) (by kernel_rfl) (by kernel_rfl) (fun _ _ _ h => h) (Or.inl ⟨by rfl, ?_⟩) (by assumption) ?_
  rotate_left
  · intro w hSw; (try dsimp only at hSw); go_simp; (try with_reducible rfl)
  try simp only [Act.put, List.setIfInBounds_toArray, List.set_cons_zero, List.set_cons_succ]
  refine wpAnyH_take (i := 8) (oi := ⟨some 15, _, _, _, _, _⟩) (v := ?_) rfl (by kernel_rfl) (by kernel_rfl) (by kernel_rfl) (fun _ _ _ h => h) (Or.inl ⟨by rfl, ?_⟩) (by assumption) ?_
  rotate_left
  · intro w hSw; (try dsimp only at hSw); go_simp; (try with_reducible rfl)
  try simp only [Act.put, List.setIfInBounds_toArray, List.set_cons_zero, List.set_cons_succ]
  refine wpAnyH_take (i := 9) (oi := ⟨some 5, _, _, _, _, _⟩) (v := ?_) rfl (by kernel_rfl) (by kernel_rfl) (by kernel_rfl) (fun _ _ _ h => h) (Or.inl ⟨by rfl, ?_⟩) (by assumption) ?_
  rotate_left
  · intro w hSw; (try dsimp only at hSw); go_simp; (try with_reducible rfl)
  try simp only [Act.put, List.setIfInBounds_toArray, List.set_cons_zero, List.set_cons_succ]
  refine wpAnyH_take (i := 10) (oi := ⟨some 6, _, _, _, _, _⟩) (v := ?_) rfl (by kernel_rfl) (by kernel_rfl) (by kernel_rfl) (fun _ _ _ h => h) (Or.inl ⟨by rfl, ?_⟩) (by assumption) ?_
  rotate_left
  · intro w hSw; (try dsimp only at hSw); go_simp; (try with_reducible rfl)
  try simp only [Act.put, List.setIfInBounds_toArray, List.set_cons_zero, List.set_cons_succ]
  refine wpAnyH_done (by kernel_rfl) ?_ _
  have yq := hHeld
  clear hHeld
  go_wp2
  go_ret
  exact ⟨rfl, y0.trans (yq.mono y0.size)⟩

set_option maxRecDepth 100000 in
set_option maxHeartbeats 4000000 in
theorem cfind12 (h : FR w g sb n N l t T c wd x FW) (hbig : N ≤ 1024) (k : Tp) (rk : RngTp k) (q : Int) (o : Bool) (hq : getC t k = (q, o)) (m r : Int) (b : Bool) (hm : Int.tdiv q 2 = m) (hr : Int.tmod q 2 = r) (hb : (r == 1) = b) (hmi : I64 m) :
    Calls Try.prog 10 #[.pointer (some ⟨g, 0, none⟩), tpV k] w fun e w' => e = .returned (.tuple #[.int .i64 m, .bool b, .bool o]) ∧ Below w.heap.size w w' := by
  have y0 : Below w.heap.size w (w.alloc (oTp k)) := (Below.refl _ _).alloc (Nat.le_refl _) _
  have hbx := Bxo.made w 38 (tpL k)
  have HR := Go.Lib.hid (h.call y0)
  have RK := Go.Lib.hid rk
  have HQ := Go.Lib.hid hq
  have e1 : IntKind.i64.wrap m = m := IntWalk.i64_in _ hmi
  clear h rk hq
  go_enter Try.func10, Try.ntmps10
  go_upto_region 3 with fail
  generalize w.alloc (oTp k) = W at *
  have HK := Go.Lib.hid hbx
  have HTB := Go.Lib.hid HR.out.tab
  have HL := Go.Lib.hid HR.out.tlen
  have HC1 : Hid (∀ Y, Below W.heap.size W Y → Y.cell? ⟨g, 1, none⟩ = some (.slice T N c)) := Go.Lib.hid (fun Y y => (HR.out.box.keep y HR.out.box.lt).cell 1 rfl)
  clear hbx
  try simp only [Act.put, List.setIfInBounds_toArray, List.set_cons_zero, List.set_cons_succ]
  refine wp_region_held_drew (S := fun Y => Below W.heap.size W Y) (by kernel_rfl) ?_ (fun hHeld => ?_)
  · exact below_drew (Below.refl _ _)
  refine wpAnyH_take (i := 0) (oi := ⟨some 12, _, _, _, _, _⟩) (v := ?_) rfl (by kernel_rfl) (by kernel_rfl) (by kernel_rfl) (fun _ _ _ h => h) (Or.inl ⟨by rfl, ?_⟩) (by assumption) ?_
  rotate_left
  · intro w hSw; (try dsimp only at hSw); go_simp; (try with_reducible rfl)
  try simp only [Act.put, List.setIfInBounds_toArray, List.set_cons_zero, List.set_cons_succ]
  refine wpAnyH_take (i := 1) (oi := ⟨some 13, _, _, _, _, _⟩) (v := ?_) rfl (by kernel_rfl) (by kernel_rfl) (by kernel_rfl) (fun _ _ _ h => h) (Or.inl ⟨by rfl, ?_⟩) (by assumption) ?_
  rotate_left
  · intro w hSw; (try dsimp only at hSw); go_simp; (try with_reducible rfl)
  try simp only [Act.put, List.setIfInBounds_toArray, List.set_cons_zero, List.set_cons_succ]
  refine wpAnyH_take (i := 2) (oi := ⟨some 14, _, _, _, _, _⟩) (v := ?_) rfl (by kernel_rfl) (by kernel_rfl) (by kernel_rfl) (fun _ _ _ h => h) (Or.inl ⟨by rfl, ?_⟩) (by assumption) ?_
  rotate_left
  · intro w hSw; (try dsimp only at hSw); go_simp; (try with_reducible rfl)
  try simp only [Act.put, List.setIfInBounds_toArray, List.set_cons_zero, List.set_cons_succ]
  refine wpAnyH_take (i := 3) (oi := ⟨some 15, _, _, _, _, _⟩) (v := ?_) rfl (by kernel_rfl) (by kernel_rfl) (by kernel_rfl) (fun _ _ _ h => h) (Or.inl ⟨by rfl, ?_⟩) (by assumption) ?_
  rotate_left
  · intro w hSw; have zc := HC1.out _ hSw; (try dsimp only at hSw); go_simp; (try with_reducible rfl)
  try simp only [Act.put, List.setIfInBounds_toArray, List.set_cons_zero, List.set_cons_succ]
  refine wpAnyH_take (i := 4) (oi := ⟨some 16, _, _, _, _, _⟩) (v := (tpV k)) rfl (by kernel_rfl) (by kernel_rfl) (by kernel_rfl) (fun _ _ _ h => h) (yieldsIf_load_at (by rfl) 38 _ rfl ⟨w.heap.size, 0, none⟩ rfl (tpL k) _ (fun Y y => (HK.out.keep y HK.out.lt).at) Try.underlying38 rfl info_tp) (by assumption) ?_
  try simp only [Act.put, List.setIfInBounds_toArray, List.set_cons_zero, List.set_cons_succ]
  refine wpAnyH_ready (rs := [5]) (by kernel_rfl) (by simp) (AllReadyH.cons (o := ⟨some 17, _, _, _, _, _⟩) rfl (fun Kc hKc => ?_) AllReadyH.nil)
  go_simp
  go_at_call 34; refine (cget10 t T c N k _ _ HL.out (HTB.out.at (below_drew (Below.refl _ _))) hbig RK.out HQ.out).mono ?_; rintro e w1 ⟨rfl, y1⟩; dsimp only
  refine hKc.out _ _ (hHeld.trans (y1.mono hHeld.size)) (fun hHeld => ?_)
  clear hKc Kc
  try simp only [Act.put, List.setIfInBounds_toArray, List.set_cons_zero, List.set_cons_succ]
  refine wpAnyH_take (i := 6) (oi := ⟨some 11, _, _, _, _, _⟩) (v := ?_) rfl (by kernel_rfl) (by kernel_rfl) (by kernel_rfl) (fun _ _ _ h => h) (Or.inl ⟨by rfl, ?_⟩) (by assumption) ?_
  rotate_left
  · intro w hSw; (try dsimp only at hSw); go_simp; (try with_reducible rfl)
  try simp only [Act.put, List.setIfInBounds_toArray, List.set_cons_zero, List.set_cons_succ]
  refine wpAnyH_take (i := 7) (oi := ⟨some 18, _, _, _, _, _⟩) (v := ?_) rfl (by kernel_rfl) (by kernel_rfl) (by kernel_rfl) (fun _ _ _ h => h) (Or.inl ⟨by rfl, ?_⟩) (by assumption) ?_
  rotate_left
  · intro w hSw; (try dsimp only at hSw); go_simp; (try with_reducible rfl)
  try simp only [Act.put, List.setIfInBounds_toArray, List.set_cons_zero, List.set_cons_succ]
  refine wpAnyH_take (i := 8) (oi := ⟨some 19, _, _, _, _, _⟩) (v := ?_) rfl (by kernel_rfl) (by kernel_rfl) (by kernel_rfl) (fun _ _ _ h => h) (Or.inl ⟨by rfl, ?_⟩) (by assumption) ?_
  rotate_left
  · intro w hSw; (try dsimp only at hSw); go_simp; (try with_reducible rfl)
  try simp only [Act.put, List.setIfInBounds_toArray, List.set_cons_zero, List.set_cons_succ]
  refine wpAnyH_take (i := 9) (oi := ⟨some 7, _, _, _, _, _⟩) (v := ?_) rfl (by kernel_rfl) (by kernel_rfl) (by kernel_rfl) (fun _ _ _ h => h) (Or.inl ⟨by rfl, ?_⟩) (by assumption) ?_
  rotate_left
  · intro w hSw; (try dsimp only at hSw); go_simp; (try with_reducible rfl)
  try simp only [Act.put, List.setIfInBounds_toArray, List.set_cons_zero, List.set_cons_succ]
  refine wpAnyH_take (i := 10) (oi := ⟨some 8, _, _, _, _, _⟩) (v := ?_) rfl (by kernel_rfl) (by kernel_rfl) (by kernel_rfl) (fun _ _ _ h => h) (Or.inl ⟨by rfl, ?_⟩) (by assumption) ?_
  rotate_left
  · intro w hSw; (try dsimp only at hSw); go_simp; (try with_reducible rfl)
  try simp only [Act.put, List.setIfInBounds_toArray, List.set_cons_zero, List.set_cons_succ]
  refine wpAnyH_done (by kernel_rfl) ?_ _
  have yq := hHeld
  clear hHeld
  go_wp2
  refine bodyPost_ret (v := .tuple #[.int .i64 m, .bool b, .bool o]) ?_ rfl ⟨rfl, y0.trans (yq.mono y0.size)⟩
  simp [results, Try.results10, go_sem]

set_option maxRecDepth 100000 in
set_option maxHeartbeats 4000000 in
theorem cgetF (h : FR w g sb n N l t T c wd x FW) (num : Int) (hn : I64 num) (o : Option Fl) (hq : ∃ a, whenH x num = (a, o.isSome)) (ho : ∀ f, o = some f → ∃ i : Nat, num = (i : Int) ∧ slotF l i = some f) :
    Calls Try.prog 11 #[.pointer (some ⟨g, 0, none⟩), .int .i64 num] w fun e w' => e = .returned (.tuple #[flV (o.getD fl0), .bool o.isSome]) ∧ Below w.heap.size w w' := by
  have y0 : Below w.heap.size w (w.alloc (oFl fl0)) := (Below.refl _ _).alloc (Nat.le_refl _) _
  have hbx := Bxo.made w 40 (flL fl0)
  have HR := Go.Lib.hid (h.call y0)
  have HI := Go.Lib.hid hn
  have HQ := Go.Lib.hid hq
  have hlen := h.len
  cases o with
  | none =>
    clear h hn hq
    go_enter Try.func11, Try.ntmps11
    go_upto_region 1 with fail
    generalize w.alloc (oFl fl0) = W at *
    have HX := Go.Lib.hid hbx
    clear hbx
    go_wp2_with (first
      | (go_at_call 35; refine (chas HR.out num HI.out _ HQ.out).mono ?_; rintro e w1 ⟨rfl, y1⟩; have HX := Go.Lib.hid (HX.out.keep y1 HX.out.lt); have yq := y0.trans (y1.mono y0.size); dsimp only)
      | (refine wpList_store_any rfl 40 _ _ rfl w.heap.size 0 40 _ (flL fl0) _ rfl rfl rfl HX.out info_fl (by show 0 + 12 ≤ 12; omega) (by simp [Value.oneCell']) ?_; intro w2 hb2 ho2; have HX2 : Hid (Bxo w2 w.heap.size 40 (flL fl0)) := Go.Lib.hid hb2; have HO2 := Go.Lib.hid ho2; clear hb2 ho2))
    refine bodyPost_ret (v := .tuple #[flV fl0, .bool false]) (results_ct12 (p := 4) (u := 5) rfl _ _ w.heap.size (flL fl0) _ rfl HX2.out Try.underlying40 rfl info_fl) rfl ⟨rfl, yq.trans (HO2.out.below (Nat.le_refl _))⟩
  | some f =>
    obtain ⟨i, rfl, hs⟩ := ho f rfl
    have hi : i < n := by rw [← hlen]; exact slot_lt hs
    have HS := Go.Lib.hid hs
    have i1 : (0 : Int) ≤ (i : Int) := by omega
    have i2 : (i : Int) < (n : Int) := by omega
    clear h hn hq ho hs
    go_enter Try.func11, Try.ntmps11
    go_upto_region 1 with fail
    generalize w.alloc (oFl fl0) = W at *
    have HX := Go.Lib.hid hbx
    clear hbx
    go_upto_region 3 with (go_at_call 35; refine (chas HR.out (i : Int) HI.out _ HQ.out).mono ?_; rintro e w1 ⟨rfl, y1⟩; have HX := Go.Lib.hid (HX.out.keep y1 HX.out.lt); have HR1 := Go.Lib.hid (HR.out.call y1); have yq := y0.trans (y1.mono y0.size); dsimp only)
    have c0 := HR1.out.box.cell 0 rfl
    have HC : Hid (∀ j v, (flL f)[j]? = some v → w1.cell? ((⟨sb, i * 12, none⟩ : Addr).add j) = some v) := Go.Lib.hid (by have := HR1.out.cell hi; rw [HS.out] at this; exact this)
    go_wp2_with (first
      | (refine wpList_load_at rfl 40 _ rfl ⟨sb, i * 12, none⟩ rfl (flL f) _ HC.out Try.underlying40 rfl info_fl ?_)
      | (refine wpList_store_any rfl 40 _ _ rfl w.heap.size 0 40 _ (flL f) _ rfl rfl rfl HX.out info_fl (by show 0 + 12 ≤ 12; omega) (by simp [Value.oneCell']) ?_; intro w2 hb2 ho2; have HX2 : Hid (Bxo w2 w.heap.size 40 (flL f)) := Go.Lib.hid hb2; have HO2 := Go.Lib.hid ho2; clear hb2 ho2))
    refine bodyPost_ret (v := .tuple #[flV f, .bool true]) (results_ct12 (p := 4) (u := 5) rfl _ _ w.heap.size (flL f) _ rfl HX2.out Try.underlying40 rfl info_fl) rfl ⟨rfl, yq.trans (HO2.out.below (Nat.le_refl _))⟩
set_option maxRecDepth 100000 in
set_option maxHeartbeats 4000000 in
theorem cmayBe12 (f : Fl) (rf : RngFl f) (w : World) (b : Bool) (hb : mayF f = b) :
    Calls Try.prog 29 #[flV f] w fun e w' => e = .returned (.bool b) ∧ Below w.heap.size w w' := by
  have y0 : Below w.heap.size w (w.alloc (oFl f)) := (Below.refl _ _).alloc (Nat.le_refl _) _
  have hbx := Bxo.made w 40 (flL f)
  have RF := Go.Lib.hid rf
  have HM := Go.Lib.hid hb
  obtain ⟨b1, h1⟩ : ∃ b1, rightT f.there = b1 := ⟨_, rfl⟩
  obtain ⟨b2, h2⟩ : ∃ b2, rightT f.back = b2 := ⟨_, rfl⟩
  have H1 := Go.Lib.hid h1
  have H2 := Go.Lib.hid h2
  have nev := fun W => neTp f.there f.back W
  have hb' : (b1 && (b2 && (!sameTp f.there f.back && decide (f.until_ ≤ 1099511627776)))) = b := by rw [← hb, ← h1, ← h2]; rfl
  have HB' := Go.Lib.hid hb'
  clear h1 h2 hb hb' rf
  go_enter Try.func29, Try.ntmps29
  go_upto_region 1 with fail
  generalize w.alloc (oFl f) = W at *
  have HX := Go.Lib.hid hbx
  clear hbx
  generalize sameTp f.there f.back = s at *
  cases b1
  · obtain rfl : false = b := HB'.out
    clear HB'
    go_wp2_with (first
      | (go_at_call_of 25 (Value.agg (tpL f.there).toArray); refine (cright9 f.there _ _ H1.out RF.out.there).mono ?_; rintro e w1 ⟨rfl, y1⟩; have HX1 := Go.Lib.hid (HX.out.keep y1 HX.out.lt); have z1 := y0.trans (y1.mono y0.size); dsimp only)
      | (go_at_call_of 25 (Value.agg (tpL f.back).toArray); refine (cright9 f.back _ _ H2.out RF.out.back).mono ?_; rintro e w2 ⟨rfl, y2⟩; have HX2 := Go.Lib.hid (HX1.out.keep y2 HX1.out.lt); have z2 := z1.trans (y2.mono z1.size); have c10 := HX2.out.cell 10 rfl; dsimp only)
      | (refine wpList_load_at rfl 38 _ rfl ⟨w.heap.size, 0, none⟩ rfl (tpL f.there) _ HX2.out.there Try.underlying38 rfl info_tp ?_)
      | (refine wpList_load_at rfl 38 _ rfl ⟨w.heap.size, 5, none⟩ rfl (tpL f.back) _ HX2.out.back Try.underlying38 rfl info_tp ?_)
      | (refine wpList_load_at rfl 38 _ rfl ⟨w.heap.size, 5, none⟩ rfl (tpL f.back) _ HX1.out.back Try.underlying38 rfl info_tp ?_)
      | (refine wpList_load_at rfl 38 _ rfl ⟨w.heap.size, 0, none⟩ rfl (tpL f.there) _ HX.out.there Try.underlying38 rfl info_tp ?_))
    go_ret
    exact ⟨rfl, z1⟩
  · cases b2
    · obtain rfl : false = b := HB'.out
      clear HB'
      go_wp2_with (first
      | (go_at_call_of 25 (Value.agg (tpL f.there).toArray); refine (cright9 f.there _ _ H1.out RF.out.there).mono ?_; rintro e w1 ⟨rfl, y1⟩; have HX1 := Go.Lib.hid (HX.out.keep y1 HX.out.lt); have z1 := y0.trans (y1.mono y0.size); dsimp only)
      | (go_at_call_of 25 (Value.agg (tpL f.back).toArray); refine (cright9 f.back _ _ H2.out RF.out.back).mono ?_; rintro e w2 ⟨rfl, y2⟩; have HX2 := Go.Lib.hid (HX1.out.keep y2 HX1.out.lt); have z2 := z1.trans (y2.mono z1.size); have c10 := HX2.out.cell 10 rfl; dsimp only)
      | (refine wpList_load_at rfl 38 _ rfl ⟨w.heap.size, 0, none⟩ rfl (tpL f.there) _ HX2.out.there Try.underlying38 rfl info_tp ?_)
      | (refine wpList_load_at rfl 38 _ rfl ⟨w.heap.size, 5, none⟩ rfl (tpL f.back) _ HX2.out.back Try.underlying38 rfl info_tp ?_)
      | (refine wpList_load_at rfl 38 _ rfl ⟨w.heap.size, 5, none⟩ rfl (tpL f.back) _ HX1.out.back Try.underlying38 rfl info_tp ?_)
      | (refine wpList_load_at rfl 38 _ rfl ⟨w.heap.size, 0, none⟩ rfl (tpL f.there) _ HX.out.there Try.underlying38 rfl info_tp ?_))
      go_ret
      exact ⟨rfl, z2⟩
    · cases s
      · have hb : decide (f.until_ ≤ 1099511627776) = b := HB'.out
        clear HB'
        by_cases hu : f.until_ ≤ 1099511627776
        · obtain rfl : true = b := by rw [← hb]; simpa using hu
          clear hb
          go_wp2_with (first
      | (go_at_call_of 25 (Value.agg (tpL f.there).toArray); refine (cright9 f.there _ _ H1.out RF.out.there).mono ?_; rintro e w1 ⟨rfl, y1⟩; have HX1 := Go.Lib.hid (HX.out.keep y1 HX.out.lt); have z1 := y0.trans (y1.mono y0.size); dsimp only)
      | (go_at_call_of 25 (Value.agg (tpL f.back).toArray); refine (cright9 f.back _ _ H2.out RF.out.back).mono ?_; rintro e w2 ⟨rfl, y2⟩; have HX2 := Go.Lib.hid (HX1.out.keep y2 HX1.out.lt); have z2 := z1.trans (y2.mono z1.size); have c10 := HX2.out.cell 10 rfl; dsimp only)
      | (refine wpList_load_at rfl 38 _ rfl ⟨w.heap.size, 0, none⟩ rfl (tpL f.there) _ HX2.out.there Try.underlying38 rfl info_tp ?_)
      | (refine wpList_load_at rfl 38 _ rfl ⟨w.heap.size, 5, none⟩ rfl (tpL f.back) _ HX2.out.back Try.underlying38 rfl info_tp ?_)
      | (refine wpList_load_at rfl 38 _ rfl ⟨w.heap.size, 5, none⟩ rfl (tpL f.back) _ HX1.out.back Try.underlying38 rfl info_tp ?_)
      | (refine wpList_load_at rfl 38 _ rfl ⟨w.heap.size, 0, none⟩ rfl (tpL f.there) _ HX.out.there Try.underlying38 rfl info_tp ?_))
          go_ret
          exact ⟨rfl, z2⟩
        · obtain rfl : false = b := by rw [← hb]; simpa using hu
          clear hb
          go_wp2_with (first
      | (go_at_call_of 25 (Value.agg (tpL f.there).toArray); refine (cright9 f.there _ _ H1.out RF.out.there).mono ?_; rintro e w1 ⟨rfl, y1⟩; have HX1 := Go.Lib.hid (HX.out.keep y1 HX.out.lt); have z1 := y0.trans (y1.mono y0.size); dsimp only)
      | (go_at_call_of 25 (Value.agg (tpL f.back).toArray); refine (cright9 f.back _ _ H2.out RF.out.back).mono ?_; rintro e w2 ⟨rfl, y2⟩; have HX2 := Go.Lib.hid (HX1.out.keep y2 HX1.out.lt); have z2 := z1.trans (y2.mono z1.size); have c10 := HX2.out.cell 10 rfl; dsimp only)
      | (refine wpList_load_at rfl 38 _ rfl ⟨w.heap.size, 0, none⟩ rfl (tpL f.there) _ HX2.out.there Try.underlying38 rfl info_tp ?_)
      | (refine wpList_load_at rfl 38 _ rfl ⟨w.heap.size, 5, none⟩ rfl (tpL f.back) _ HX2.out.back Try.underlying38 rfl info_tp ?_)
      | (refine wpList_load_at rfl 38 _ rfl ⟨w.heap.size, 5, none⟩ rfl (tpL f.back) _ HX1.out.back Try.underlying38 rfl info_tp ?_)
      | (refine wpList_load_at rfl 38 _ rfl ⟨w.heap.size, 0, none⟩ rfl (tpL f.there) _ HX.out.there Try.underlying38 rfl info_tp ?_))
          go_ret
          exact ⟨rfl, z2⟩
      · obtain rfl : false = b := HB'.out
        clear HB'
        go_wp2_with (first
      | (go_at_call_of 25 (Value.agg (tpL f.there).toArray); refine (cright9 f.there _ _ H1.out RF.out.there).mono ?_; rintro e w1 ⟨rfl, y1⟩; have HX1 := Go.Lib.hid (HX.out.keep y1 HX.out.lt); have z1 := y0.trans (y1.mono y0.size); dsimp only)
      | (go_at_call_of 25 (Value.agg (tpL f.back).toArray); refine (cright9 f.back _ _ H2.out RF.out.back).mono ?_; rintro e w2 ⟨rfl, y2⟩; have HX2 := Go.Lib.hid (HX1.out.keep y2 HX1.out.lt); have z2 := z1.trans (y2.mono z1.size); have c10 := HX2.out.cell 10 rfl; dsimp only)
      | (refine wpList_load_at rfl 38 _ rfl ⟨w.heap.size, 0, none⟩ rfl (tpL f.there) _ HX2.out.there Try.underlying38 rfl info_tp ?_)
      | (refine wpList_load_at rfl 38 _ rfl ⟨w.heap.size, 5, none⟩ rfl (tpL f.back) _ HX2.out.back Try.underlying38 rfl info_tp ?_)
      | (refine wpList_load_at rfl 38 _ rfl ⟨w.heap.size, 5, none⟩ rfl (tpL f.back) _ HX1.out.back Try.underlying38 rfl info_tp ?_)
      | (refine wpList_load_at rfl 38 _ rfl ⟨w.heap.size, 0, none⟩ rfl (tpL f.there) _ HX.out.there Try.underlying38 rfl info_tp ?_))
        go_ret
        exact ⟨rfl, z2⟩
/-- the least number that no flow has. -/
theorem free_step {l : List (Option Fl)} {i k : Nat} (h : freeF l = some i) (hk : k ≤ i) : k < l.length ∧ ((slotF l k).isSome = true ↔ k < i) := by
  obtain ⟨h1, h2, h3⟩ := freeF_some h
  refine ⟨by omega, fun q => ?_, fun q => ?_⟩
  · rcases Nat.lt_or_ge k i with h4 | h4
    · exact h4
    · have : k = i := by omega
      subst this
      rw [h2] at q
      cases q
  · cases ho : slotF l k with
    | none => exact absurd ho (h3 k q)
    | some f => rfl
set_option maxHeartbeats 4000000 in
theorem cfree (h : FR w g sb n N l t T c wd x FW) (hW : ∀ num, ∃ a, whenH x num = (a, (thereF ⟨l, x.now⟩ num).isSome)) (hn : n ≤ 256) (i : Nat) (hi : freeF l = some i) :
    Calls Try.prog 32 #[.pointer (some ⟨g, 0, none⟩)] w fun e w' => e = .returned (.int .i64 (i : Int)) ∧ Below w.heap.size w w' := by
  have HR := Go.Lib.hid h
  have HW := Go.Lib.hid hW
  have HI := Go.Lib.hid hi
  have hil : i < n := by rw [← h.len]; exact (freeF_some hi).1
  clear h hW hi
  go_enter Try.func32, Try.ntmps32
  go_wp2_with fail
  go_loopw [3] (fun v wr => ∃ k : Nat, v = .int .i64 (k : Int) ∧ k ≤ i ∧ Below w.heap.size w wr) (fun v _ => 300 - (intOf v).toNat)
  case atStart => exact ⟨0, rfl, by omega, Below.refl _ _⟩
  case round =>
    rename World => wo
    obtain ⟨k, rfl, hk, ya⟩ := hrel
    have HRk := Go.Lib.hid (HR.out.call ya)
    have HIk : Hid (I64 (k : Int)) := Go.Lib.hid (by unfold I64; omega)
    obtain ⟨b, hb⟩ : ∃ b, (slotF l k).isSome = b := ⟨_, rfl⟩
    have HQ : Hid (∃ a, whenH x (k : Int) = (a, b)) := Go.Lib.hid (by
      obtain ⟨a, ha⟩ := HW.out (k : Int)
      rw [there_nat] at ha
      exact ⟨a, by rw [ha, ← hb]⟩)
    have hs := (free_step HI.out hk).2
    rw [hb] at hs
    clear hb
    cases b
    · have hki : k = i := by
        rcases Nat.lt_or_ge k i with h4 | h4
        · exact absurd (hs.2 h4) (by simp)
        · omega
      subst hki
      clear hs
      go_wp2_with (go_at_call 35; refine (chas HRk.out (k : Int) HIk.out _ HQ.out).mono ?_; rintro e w1 ⟨rfl, y1⟩; have z1 := ya.trans (y1.mono ya.size); dsimp only)
      go_ret
      exact ⟨rfl, z1⟩
    · have hki : k < i := hs.1 rfl
      clear hs
      go_wp2_with (go_at_call 35; refine (chas HRk.out (k : Int) HIk.out _ HQ.out).mono ?_; rintro e w1 ⟨rfl, y1⟩; have z1 := ya.trans (y1.mono ya.size); dsimp only)
      go_round
      case rel => exact ⟨k + 1, by go_num, by omega, z1⟩
      case measure => simp [intOf]; omega
end
end Go.Proofs.Ytofpalmghdapkaa

/- The landed store of flows: put, take. -/
namespace Go.Proofs.Ytofpalmghdapkaa
open Go.ChangeShapes Go.WideShapes Go.ChangeAt Go.RowKit
set_option linter.unusedVariables false
set_option linter.unusedSimpArgs false

theorem info_csl : (Try.prog.info? 68).map (·.size) = some 1 := by kernel_rfl
theorem Newer.next {w w' : World} {F F1 F2 : Nat → Prop} (h : Newer w F F1) (k : Newer w' F1 F2) (hs : w.heap.size ≤ w'.heap.size) : Newer w F F2 := fun b hb => (k b hb).elim (fun q => h b q) (fun q => .inr (Nat.le_trans hs q))
theorem Newer.same (w : World) (F : Nat → Prop) : Newer w F F := fun b h => .inl h
theorem newer_wheel {w : World} {g sb : Nat} {T : Option Addr} {FW FW' : Nat → Prop} (h : Newer w FW FW') : Newer w (FB g sb T FW) (FB g sb T FW') := fun b hb => by
  rcases hb with h1 | h1 | h1 | h1
  · exact .inl (.inl h1)
  · exact .inl (.inr (.inl h1))
  · exact .inl (.inr (.inr (.inl h1)))
  · exact (h b h1).imp (fun q => .inr (.inr (.inr q))) id
section
variable {w w' : World} {g sb n N c : Nat} {l : List (Option Fl)} {t : List Cl} {T : Option Addr} {wd : Addr} {x : Wh} {FW : Nat → Prop}
set_option maxRecDepth 100000 in
set_option maxHeartbeats 8000000 in
theorem cputF (h : FR w g sb n N l t T c wd x FW) (hbig : N ≤ 1024) (hn : n ≤ 256) (i : Nat) (hi : i < n) (f : Fl) (rf : RngFl f) (T1 T2 : List Cl) (e1 : putC t f.there (2 * (i : Int)) = (T1, 0)) (l1 : T1.length = N) (e2 : putC T1 f.back (2 * (i : Int) + 1) = (T2, 0)) (l2 : T2.length = N) (X : Wh) (eX : setH x (i : Int) f.until_ = (X, 0)) :
    Calls Try.prog 33 #[.pointer (some ⟨g, 0, none⟩), .int .i64 (i : Int), flV f] w fun e w' => e = .returned (.tuple #[]) ∧ ∃ T' c' FW', FR w' g sb n N (l.set i (some f)) T2 T' c' wd X FW' ∧ Newer w (FB g sb T FW) (FB g sb T' FW') ∧ Moves w w' (FB g sb T FW) := by
  have y0 : Below w.heap.size w (w.alloc (oFl f)) := (Below.refl _ _).alloc (Nat.le_refl _) _
  have hbx := Bxo.made w 40 (flL f)
  have HR := Go.Lib.hid (h.call y0)
  have hns : w.heap.size ≠ sb := by have := h.row.lt; omega
  have hng : w.heap.size ≠ g := by have := h.box.lt; omega
  have HNW : Hid (¬ FW w.heap.size) := Go.Lib.hid (fun q => by have := kWheel.lt h.whl _ q; omega)
  have HL := Go.Lib.hid h.tlen
  have HL1 := Go.Lib.hid l1
  have HL2 := Go.Lib.hid l2
  have HLEN := Go.Lib.hid h.len
  have RF := Go.Lib.hid rf
  have E1 := Go.Lib.hid e1
  have E2 := Go.Lib.hid e2
  have EX := Go.Lib.hid eX
  have i1 : (0 : Int) ≤ (i : Int) := by omega
  have i2 : (i : Int) < (n : Int) := by omega
  have s1 : IntKind.i64.wrap (2 * (i : Int)) = 2 * (i : Int) := IntWalk.i64_in _ (by omega)
  have s2 : IntKind.i64.wrap (2 * (i : Int) + 1) = 2 * (i : Int) + 1 := IntWalk.i64_in _ (by omega)
  clear h rf e1 e2 l1 l2 eX
  go_enter Try.func33, Try.ntmps33
  go_upto_region 1 with fail
  generalize w.alloc (oFl f) = W at *
  have HX := Go.Lib.hid hbx
  clear hbx
  obtain ⟨cur, hcur⟩ : ∃ cur, (flowsF l).flatMap Fl.L = cur := ⟨_, rfl⟩
  have hcl : i * 12 + 12 ≤ cur.length := by
    have h1 := flat_len Fl.L 12 Fl.len (flowsF l)
    rw [hcur, flows_len, HLEN.out] at h1
    have : (i + 1) * 12 ≤ n * 12 := Nat.mul_le_mul_right 12 (by omega)
    omega
  have HROW : Hid (Bxo W.drew sb 40 cur) := Go.Lib.hid (by rw [← hcur]; exact HR.out.row)
  have HCUR := Go.Lib.hid hcur
  have HC0 : Hid (∀ Y, Gro sb W Y → Y.cell? ⟨g, 0, none⟩ = some (.slice (some ⟨sb, 0, none⟩) n n)) := Go.Lib.hid (fun Y y => (HR.out.box.gro y HR.out.gs).cell 0 rfl)
  clear hcur
  try simp only [Act.put, List.setIfInBounds_toArray, List.set_cons_zero, List.set_cons_succ]
  refine wp_region_held_drew (S := fun Y => Gro sb W Y) (by kernel_rfl) ?_ (fun hHeld => ?_)
  · exact (gro_below (below_drew (Below.refl _ _)))
  refine wpAnyH_take (i := 0) (oi := ⟨some 6, _, _, _, _, _⟩) (v := ?_) rfl (by kernel_rfl) (by kernel_rfl) (by kernel_rfl) (fun _ _ _ h => h) (Or.inl ⟨by rfl, ?_⟩) (by assumption) ?_
  rotate_left
  · intro w hSw; (try dsimp only at hSw); go_simp; (try with_reducible rfl)
  try simp only [Act.put, List.setIfInBounds_toArray, List.set_cons_zero, List.set_cons_succ]
  refine wpAnyH_take (i := 1) (oi := ⟨some 7, _, _, _, _, _⟩) (v := ?_) rfl (by kernel_rfl) (by kernel_rfl) (by kernel_rfl) (fun _ _ _ h => h) (Or.inl ⟨by rfl, ?_⟩) (by assumption) ?_
  rotate_left
  · intro w hSw; (try dsimp only at hSw); go_simp; (try with_reducible rfl)
  try simp only [Act.put, List.setIfInBounds_toArray, List.set_cons_zero, List.set_cons_succ]
  refine wpAnyH_take (i := 2) (oi := ⟨some 8, _, _, _, _, _⟩) (v := ?_) rfl (by kernel_rfl) (by kernel_rfl) (by kernel_rfl) (fun _ _ _ h => h) (Or.inl ⟨by rfl, ?_⟩) (by assumption) ?_
  rotate_left
  · intro w hSw; (try dsimp only at hSw); go_simp; (try with_reducible rfl)
  try simp only [Act.put, List.setIfInBounds_toArray, List.set_cons_zero, List.set_cons_succ]
  refine wpAnyH_take (i := 3) (oi := ⟨some 9, _, _, _, _, _⟩) (v := ?_) rfl (by kernel_rfl) (by kernel_rfl) (by kernel_rfl) (fun _ _ _ h => h) (Or.inl ⟨by rfl, ?_⟩) (by assumption) ?_
  rotate_left
  · intro w hSw; have zc := HC0.out _ hSw; (try dsimp only at hSw); go_simp; (try with_reducible rfl)
  try simp only [Act.put, List.setIfInBounds_toArray, List.set_cons_zero, List.set_cons_succ]
  refine wpAnyH_take (i := 4) (oi := ⟨some 10, _, _, _, _, _⟩) (v := ?_) rfl (by kernel_rfl) (by kernel_rfl) (by kernel_rfl) (fun _ _ _ h => h) (Or.inl ⟨by rfl, ?_⟩) (by assumption) ?_
  rotate_left
  · intro w hSw; (try dsimp only at hSw); go_simp; (try with_reducible rfl)
  try simp only [Act.put, List.setIfInBounds_toArray, List.set_cons_zero, List.set_cons_succ]
  refine wpAnyH_take (i := 5) (oi := ⟨some 11, _, _, _, _, _⟩) (v := (flV f)) rfl (by kernel_rfl) (by kernel_rfl) (by kernel_rfl) (fun _ _ _ h => h) (yieldsIf_load_at (by rfl) 40 _ rfl ⟨w.heap.size, 0, none⟩ rfl (flL f) _ (fun Y y => (HX.out.gro y hns).at) Try.underlying40 rfl info_fl) (by assumption) ?_
  try simp only [Act.put, List.setIfInBounds_toArray, List.set_cons_zero, List.set_cons_succ]
  refine wpAnyH_take (i := 6) (oi := ⟨some 12, _, _, _, _, _⟩) (v := ?_) rfl (by kernel_rfl) (by kernel_rfl) (by kernel_rfl) (fun _ _ _ h => h) (Or.inl ⟨by rfl, ?_⟩) (by assumption) ?_
  rotate_left
  · intro w hSw; (try dsimp only at hSw); go_simp; (try with_reducible rfl)
  try simp only [Act.put, List.setIfInBounds_toArray, List.set_cons_zero, List.set_cons_succ]
  refine wpAnyH_ready (rs := [7]) (by kernel_rfl) (by simp) (AllReadyH.cons (o := ⟨none, _, _, _, _, _⟩) rfl (fun Kc hKc => ?_) AllReadyH.nil)
  rw [if_pos (by rfl)]
  refine step_store_any 40 _ _ rfl sb (i * 12) 40 _ (flL f) _ rfl rfl rfl HROW.out info_fl hcl (by simp [Value.oneCell']) ?_; intro w1 hb1 ho1; have HB1 := Go.Lib.hid hb1; have HO1 := Go.Lib.hid ho1; clear hb1 ho1
  refine hKc.out _ _ (hHeld.trans HO1.out.gro) (fun hHeld => ?_)
  clear hKc Kc
  try simp only [Act.put, List.setIfInBounds_toArray, List.set_cons_zero, List.set_cons_succ]
  refine wpAnyH_done (by kernel_rfl) ?_ _
  have YA := Go.Lib.hid hHeld
  clear hHeld
  have HRA := Go.Lib.hid (HR.out.drew.slot hi (some f) (by rw [HCUR.out]; exact HB1.out) HO1.out)
  have HXA := Go.Lib.hid (HX.out.gro YA.out hns)
  have M1 := Go.Lib.hid ((moves_below (F := FB g sb T FW) y0).trans (gro_moves YA.out (.inr (.inl rfl))))
  clear HR HX HROW HC0 HB1 HO1
  go_upto_region 2 with fail
  have HRdb := Go.Lib.hid HRA.out.drew
  have HTABb := Go.Lib.hid HRdb.out.tab
  have cdb := HRdb.out.box.cell 1 rfl
  try simp only [Act.put, List.setIfInBounds_toArray, List.set_cons_zero, List.set_cons_succ]
  refine wp_region_held_drew (S := fun Y => Gro g w1 Y) (by kernel_rfl) ?_ (fun hHeld => ?_)
  · exact (gro_below (below_drew (Below.refl _ _)))
  refine wpAnyH_take (i := 0) (oi := ⟨some 14, _, _, _, _, _⟩) (v := ?_) rfl (by kernel_rfl) (by kernel_rfl) (by kernel_rfl) (fun _ _ _ h => h) (Or.inl ⟨by rfl, ?_⟩) (by assumption) ?_
  rotate_left
  · intro w hSw; (try dsimp only at hSw); go_simp; (try with_reducible rfl)
  try simp only [Act.put, List.setIfInBounds_toArray, List.set_cons_zero, List.set_cons_succ]
  refine wpAnyH_take (i := 1) (oi := ⟨some 15, _, _, _, _, _⟩) (v := ?_) rfl (by kernel_rfl) (by kernel_rfl) (by kernel_rfl) (fun _ _ _ h => h) (Or.inl ⟨by rfl, ?_⟩) (by assumption) ?_
  rotate_left
  · intro w hSw; (try dsimp only at hSw); go_simp; (try with_reducible rfl)
  try simp only [Act.put, List.setIfInBounds_toArray, List.set_cons_zero, List.set_cons_succ]
  refine wpAnyH_take (i := 2) (oi := ⟨some 16, _, _, _, _, _⟩) (v := ?_) rfl (by kernel_rfl) (by kernel_rfl) (by kernel_rfl) (fun _ _ _ h => h) (Or.inl ⟨by rfl, ?_⟩) (by assumption) ?_
  rotate_left
  · intro w hSw; (try dsimp only at hSw); go_simp; (try with_reducible rfl)
  try simp only [Act.put, List.setIfInBounds_toArray, List.set_cons_zero, List.set_cons_succ]
  refine wpAnyH_take (i := 3) (oi := ⟨some 17, _, _, _, _, _⟩) (v := ?_) rfl (by kernel_rfl) (by kernel_rfl) (by kernel_rfl) (fun _ _ _ h => h) (Or.inl ⟨by rfl, ?_⟩) (by assumption) ?_
  rotate_left
  · intro w hSw; (try dsimp only at hSw); go_simp; (try with_reducible rfl)
  try simp only [Act.put, List.setIfInBounds_toArray, List.set_cons_zero, List.set_cons_succ]
  refine wpAnyH_take (i := 5) (oi := ⟨some 19, _, _, _, _, _⟩) (v := ?_) rfl (by kernel_rfl) (by kernel_rfl) (by kernel_rfl) (fun _ _ _ h => h) (Or.inl ⟨by rfl, ?_⟩) (by assumption) ?_
  rotate_left
  · intro w hSw; (try dsimp only at hSw); go_simp; (try with_reducible rfl)
  try simp only [Act.put, List.setIfInBounds_toArray, List.set_cons_zero, List.set_cons_succ]
  refine wpAnyH_take (i := 6) (oi := ⟨some 20, _, _, _, _, _⟩) (v := (tpV f.there)) rfl (by kernel_rfl) (by kernel_rfl) (by kernel_rfl) (fun _ _ _ h => h) (yieldsIf_load_at (by rfl) 38 _ rfl ⟨w.heap.size, 0, none⟩ rfl (tpL f.there) _ (fun Y y => (HXA.out.gro y hng).there) Try.underlying38 rfl info_tp) (by assumption) ?_
  try simp only [Act.put, List.setIfInBounds_toArray, List.set_cons_zero, List.set_cons_succ]
  refine wpAnyH_take (i := 7) (oi := ⟨some 21, _, _, _, _, _⟩) (v := ?_) rfl (by kernel_rfl) (by kernel_rfl) (by kernel_rfl) (fun _ _ _ h => h) (Or.inl ⟨by rfl, ?_⟩) (by assumption) ?_
  rotate_left
  · intro w hSw; (try dsimp only at hSw); go_simp; (try with_reducible rfl)
  try simp only [Act.put, List.setIfInBounds_toArray, List.set_cons_zero, List.set_cons_succ]
  refine wpAnyH_take (i := 8) (oi := ⟨some 22, _, _, _, _, _⟩) (v := ?_) rfl (by kernel_rfl) (by kernel_rfl) (by kernel_rfl) (fun _ _ _ h => h) (Or.inl ⟨by rfl, ?_⟩) (by assumption) ?_
  rotate_left
  · intro w hSw; (try dsimp only at hSw); go_simp; (try with_reducible rfl)
  try simp only [Act.put, List.setIfInBounds_toArray, List.set_cons_zero, List.set_cons_succ]
  refine wpAnyH_ready (rs := [4]) (by kernel_rfl) (by simp) (AllReadyH.cons (o := ⟨some 18, _, _, _, _, _⟩) rfl (fun Kc hKc => ?_) AllReadyH.nil)
  go_simp
  refine hKc.out _ _ (hHeld) (fun hHeld => ?_)
  clear hKc Kc
  try simp only [Act.put, List.setIfInBounds_toArray, List.set_cons_zero, List.set_cons_succ]
  refine wpAnyH_ready (rs := [9]) (by kernel_rfl) (by simp) (AllReadyH.cons (o := ⟨some 23, _, _, _, _, _⟩) rfl (fun Kc hKc => ?_) AllReadyH.nil)
  go_simp
  go_at_call 45; refine (cput10 t T c N f.there (2 * (i : Int)) _ _ HL.out HTABb.out hbig RF.out.there E1.out).mono ?_; rintro e wab ht; obtain ⟨Ab, cb, rfl, htb, yab, hAb⟩ := ht.nf HL1.out; have HRab := Go.Lib.hid (HRdb.out.call yab); have HTb := Go.Lib.hid htb; have HAb := Go.Lib.hid (HRdb.out.apart hAb); have HBXb := Go.Lib.hid HRab.out.box; clear htb hAb; dsimp only
  refine hKc.out _ _ (hHeld.trans (gro_below yab)) (fun hHeld => ?_)
  clear hKc Kc
  try simp only [Act.put, List.setIfInBounds_toArray, List.set_cons_zero, List.set_cons_succ]
  refine wpAnyH_take (i := 10) (oi := ⟨some 13, _, _, _, _, _⟩) (v := ?_) rfl (by kernel_rfl) (by kernel_rfl) (by kernel_rfl) (fun _ _ _ h => h) (Or.inl ⟨by rfl, ?_⟩) (by assumption) ?_
  rotate_left
  · intro w hSw; (try dsimp only at hSw); go_simp; (try with_reducible rfl)
  try simp only [Act.put, List.setIfInBounds_toArray, List.set_cons_zero, List.set_cons_succ]
  refine wpAnyH_take (i := 11) (oi := ⟨some 24, _, _, _, _, _⟩) (v := ?_) rfl (by kernel_rfl) (by kernel_rfl) (by kernel_rfl) (fun _ _ _ h => h) (Or.inl ⟨by rfl, ?_⟩) (by assumption) ?_
  rotate_left
  · intro w hSw; (try dsimp only at hSw); go_simp; (try with_reducible rfl)
  try simp only [Act.put, List.setIfInBounds_toArray, List.set_cons_zero, List.set_cons_succ]
  refine wpAnyH_take (i := 12) (oi := ⟨some 25, _, _, _, _, _⟩) (v := ?_) rfl (by kernel_rfl) (by kernel_rfl) (by kernel_rfl) (fun _ _ _ h => h) (Or.inl ⟨by rfl, ?_⟩) (by assumption) ?_
  rotate_left
  · intro w hSw; (try dsimp only at hSw); go_simp; (try with_reducible rfl)
  try simp only [Act.put, List.setIfInBounds_toArray, List.set_cons_zero, List.set_cons_succ]
  refine wpAnyH_take (i := 13) (oi := ⟨some 26, _, _, _, _, _⟩) (v := ?_) rfl (by kernel_rfl) (by kernel_rfl) (by kernel_rfl) (fun _ _ _ h => h) (Or.inl ⟨by rfl, ?_⟩) (by assumption) ?_
  rotate_left
  · intro w hSw; (try dsimp only at hSw); go_simp; (try with_reducible rfl)
  try simp only [Act.put, List.setIfInBounds_toArray, List.set_cons_zero, List.set_cons_succ]
  refine wpAnyH_take (i := 14) (oi := ⟨some 27, _, _, _, _, _⟩) (v := ?_) rfl (by kernel_rfl) (by kernel_rfl) (by kernel_rfl) (fun _ _ _ h => h) (Or.inl ⟨by rfl, ?_⟩) (by assumption) ?_
  rotate_left
  · intro w hSw; (try dsimp only at hSw); go_simp; (try with_reducible rfl)
  try simp only [Act.put, List.setIfInBounds_toArray, List.set_cons_zero, List.set_cons_succ]
  refine wpAnyH_ready (rs := [15]) (by kernel_rfl) (by simp) (AllReadyH.cons (o := ⟨none, _, _, _, _, _⟩) rfl (fun Kc hKc => ?_) AllReadyH.nil)
  rw [if_pos (by rfl)]
  refine step_store_any 68 _ _ rfl g 1 75 _ [.slice Ab N cb] _ rfl rfl rfl HBXb.out info_csl (by show 1 + 1 ≤ 3; omega) (by simp [Value.oneCell']) ?_; intro wb hbb hob; have HBb : Hid (Bxo wb g 75 (fsL sb n Ab N cb wd)) := Go.Lib.hid hbb; have HOb := Go.Lib.hid hob; clear hbb hob
  refine hKc.out _ _ (hHeld.trans HOb.out.gro) (fun hHeld => ?_)
  clear hKc Kc
  try simp only [Act.put, List.setIfInBounds_toArray, List.set_cons_zero, List.set_cons_succ]
  refine wpAnyH_done (by kernel_rfl) ?_ _
  clear cdb
  have YB := Go.Lib.hid hHeld
  clear hHeld
  have HRB := Go.Lib.hid (HRab.out.table HBb.out HOb.out HTb.out HL1.out HAb.out.1)
  have HXB := Go.Lib.hid (HXA.out.gro YB.out hng)
  clear HRdb HTABb HRab HBXb HBb HOb HTb HXA HRA
  go_upto_region 3 with fail
  have HRdc := Go.Lib.hid HRB.out.drew
  have HTABc := Go.Lib.hid HRdc.out.tab
  have cdc := HRdc.out.box.cell 1 rfl
  try simp only [Act.put, List.setIfInBounds_toArray, List.set_cons_zero, List.set_cons_succ]
  refine wp_region_held_drew (S := fun Y => Gro g wb Y) (by kernel_rfl) ?_ (fun hHeld => ?_)
  · exact (gro_below (below_drew (Below.refl _ _)))
  refine wpAnyH_take (i := 0) (oi := ⟨some 29, _, _, _, _, _⟩) (v := ?_) rfl (by kernel_rfl) (by kernel_rfl) (by kernel_rfl) (fun _ _ _ h => h) (Or.inl ⟨by rfl, ?_⟩) (by assumption) ?_
  rotate_left
  · intro w hSw; (try dsimp only at hSw); go_simp; (try with_reducible rfl)
  try simp only [Act.put, List.setIfInBounds_toArray, List.set_cons_zero, List.set_cons_succ]
  refine wpAnyH_take (i := 1) (oi := ⟨some 30, _, _, _, _, _⟩) (v := ?_) rfl (by kernel_rfl) (by kernel_rfl) (by kernel_rfl) (fun _ _ _ h => h) (Or.inl ⟨by rfl, ?_⟩) (by assumption) ?_
  rotate_left
  · intro w hSw; (try dsimp only at hSw); go_simp; (try with_reducible rfl)
  try simp only [Act.put, List.setIfInBounds_toArray, List.set_cons_zero, List.set_cons_succ]
  refine wpAnyH_take (i := 2) (oi := ⟨some 31, _, _, _, _, _⟩) (v := ?_) rfl (by kernel_rfl) (by kernel_rfl) (by kernel_rfl) (fun _ _ _ h => h) (Or.inl ⟨by rfl, ?_⟩) (by assumption) ?_
  rotate_left
  · intro w hSw; (try dsimp only at hSw); go_simp; (try with_reducible rfl)
  try simp only [Act.put, List.setIfInBounds_toArray, List.set_cons_zero, List.set_cons_succ]
  refine wpAnyH_take (i := 3) (oi := ⟨some 32, _, _, _, _, _⟩) (v := ?_) rfl (by kernel_rfl) (by kernel_rfl) (by kernel_rfl) (fun _ _ _ h => h) (Or.inl ⟨by rfl, ?_⟩) (by assumption) ?_
  rotate_left
  · intro w hSw; (try dsimp only at hSw); go_simp; (try with_reducible rfl)
  try simp only [Act.put, List.setIfInBounds_toArray, List.set_cons_zero, List.set_cons_succ]
  refine wpAnyH_take (i := 5) (oi := ⟨some 34, _, _, _, _, _⟩) (v := ?_) rfl (by kernel_rfl) (by kernel_rfl) (by kernel_rfl) (fun _ _ _ h => h) (Or.inl ⟨by rfl, ?_⟩) (by assumption) ?_
  rotate_left
  · intro w hSw; (try dsimp only at hSw); go_simp; (try with_reducible rfl)
  try simp only [Act.put, List.setIfInBounds_toArray, List.set_cons_zero, List.set_cons_succ]
  refine wpAnyH_take (i := 6) (oi := ⟨some 35, _, _, _, _, _⟩) (v := (tpV f.back)) rfl (by kernel_rfl) (by kernel_rfl) (by kernel_rfl) (fun _ _ _ h => h) (yieldsIf_load_at (by rfl) 38 _ rfl ⟨w.heap.size, 5, none⟩ rfl (tpL f.back) _ (fun Y y => (HXB.out.gro y hng).back) Try.underlying38 rfl info_tp) (by assumption) ?_
  try simp only [Act.put, List.setIfInBounds_toArray, List.set_cons_zero, List.set_cons_succ]
  refine wpAnyH_take (i := 7) (oi := ⟨some 36, _, _, _, _, _⟩) (v := ?_) rfl (by kernel_rfl) (by kernel_rfl) (by kernel_rfl) (fun _ _ _ h => h) (Or.inl ⟨by rfl, ?_⟩) (by assumption) ?_
  rotate_left
  · intro w hSw; (try dsimp only at hSw); go_simp; (try with_reducible rfl)
  try simp only [Act.put, List.setIfInBounds_toArray, List.set_cons_zero, List.set_cons_succ]
  refine wpAnyH_take (i := 8) (oi := ⟨some 37, _, _, _, _, _⟩) (v := ?_) rfl (by kernel_rfl) (by kernel_rfl) (by kernel_rfl) (fun _ _ _ h => h) (Or.inl ⟨by rfl, ?_⟩) (by assumption) ?_
  rotate_left
  · intro w hSw; (try dsimp only at hSw); go_simp; (try with_reducible rfl)
  try simp only [Act.put, List.setIfInBounds_toArray, List.set_cons_zero, List.set_cons_succ]
  refine wpAnyH_take (i := 9) (oi := ⟨some 38, _, _, _, _, _⟩) (v := ?_) rfl (by kernel_rfl) (by kernel_rfl) (by kernel_rfl) (fun _ _ _ h => h) (Or.inl ⟨by rfl, ?_⟩) (by assumption) ?_
  rotate_left
  · intro w hSw; (try dsimp only at hSw); go_simp; (try with_reducible rfl)
  try simp only [Act.put, List.setIfInBounds_toArray, List.set_cons_zero, List.set_cons_succ]
  refine wpAnyH_ready (rs := [4]) (by kernel_rfl) (by simp) (AllReadyH.cons (o := ⟨some 33, _, _, _, _, _⟩) rfl (fun Kc hKc => ?_) AllReadyH.nil)
  go_simp
  refine hKc.out _ _ (hHeld) (fun hHeld => ?_)
  clear hKc Kc
  try simp only [Act.put, List.setIfInBounds_toArray, List.set_cons_zero, List.set_cons_succ]
  refine wpAnyH_ready (rs := [10]) (by kernel_rfl) (by simp) (AllReadyH.cons (o := ⟨some 39, _, _, _, _, _⟩) rfl (fun Kc hKc => ?_) AllReadyH.nil)
  go_simp
  go_at_call 45; refine (cput10 T1 Ab cb N f.back (2 * (i : Int) + 1) _ _ HL1.out HTABc.out hbig RF.out.back E2.out).mono ?_; rintro e wac ht; obtain ⟨Ac, cc, rfl, htc, yac, hAc⟩ := ht.nf HL2.out; have HRac := Go.Lib.hid (HRdc.out.call yac); have HTc := Go.Lib.hid htc; have HAc := Go.Lib.hid (HRdc.out.apart hAc); have HBXc := Go.Lib.hid HRac.out.box; clear htc hAc; dsimp only
  refine hKc.out _ _ (hHeld.trans (gro_below yac)) (fun hHeld => ?_)
  clear hKc Kc
  try simp only [Act.put, List.setIfInBounds_toArray, List.set_cons_zero, List.set_cons_succ]
  refine wpAnyH_take (i := 11) (oi := ⟨some 28, _, _, _, _, _⟩) (v := ?_) rfl (by kernel_rfl) (by kernel_rfl) (by kernel_rfl) (fun _ _ _ h => h) (Or.inl ⟨by rfl, ?_⟩) (by assumption) ?_
  rotate_left
  · intro w hSw; (try dsimp only at hSw); go_simp; (try with_reducible rfl)
  try simp only [Act.put, List.setIfInBounds_toArray, List.set_cons_zero, List.set_cons_succ]
  refine wpAnyH_take (i := 12) (oi := ⟨some 40, _, _, _, _, _⟩) (v := ?_) rfl (by kernel_rfl) (by kernel_rfl) (by kernel_rfl) (fun _ _ _ h => h) (Or.inl ⟨by rfl, ?_⟩) (by assumption) ?_
  rotate_left
  · intro w hSw; (try dsimp only at hSw); go_simp; (try with_reducible rfl)
  try simp only [Act.put, List.setIfInBounds_toArray, List.set_cons_zero, List.set_cons_succ]
  refine wpAnyH_take (i := 13) (oi := ⟨some 41, _, _, _, _, _⟩) (v := ?_) rfl (by kernel_rfl) (by kernel_rfl) (by kernel_rfl) (fun _ _ _ h => h) (Or.inl ⟨by rfl, ?_⟩) (by assumption) ?_
  rotate_left
  · intro w hSw; (try dsimp only at hSw); go_simp; (try with_reducible rfl)
  try simp only [Act.put, List.setIfInBounds_toArray, List.set_cons_zero, List.set_cons_succ]
  refine wpAnyH_take (i := 14) (oi := ⟨some 42, _, _, _, _, _⟩) (v := ?_) rfl (by kernel_rfl) (by kernel_rfl) (by kernel_rfl) (fun _ _ _ h => h) (Or.inl ⟨by rfl, ?_⟩) (by assumption) ?_
  rotate_left
  · intro w hSw; (try dsimp only at hSw); go_simp; (try with_reducible rfl)
  try simp only [Act.put, List.setIfInBounds_toArray, List.set_cons_zero, List.set_cons_succ]
  refine wpAnyH_take (i := 15) (oi := ⟨some 43, _, _, _, _, _⟩) (v := ?_) rfl (by kernel_rfl) (by kernel_rfl) (by kernel_rfl) (fun _ _ _ h => h) (Or.inl ⟨by rfl, ?_⟩) (by assumption) ?_
  rotate_left
  · intro w hSw; (try dsimp only at hSw); go_simp; (try with_reducible rfl)
  try simp only [Act.put, List.setIfInBounds_toArray, List.set_cons_zero, List.set_cons_succ]
  refine wpAnyH_ready (rs := [16]) (by kernel_rfl) (by simp) (AllReadyH.cons (o := ⟨none, _, _, _, _, _⟩) rfl (fun Kc hKc => ?_) AllReadyH.nil)
  rw [if_pos (by rfl)]
  refine step_store_any 68 _ _ rfl g 1 75 _ [.slice Ac N cc] _ rfl rfl rfl HBXc.out info_csl (by show 1 + 1 ≤ 3; omega) (by simp [Value.oneCell']) ?_; intro wc hbc hoc; have HBc : Hid (Bxo wc g 75 (fsL sb n Ac N cc wd)) := Go.Lib.hid hbc; have HOc := Go.Lib.hid hoc; clear hbc hoc
  refine hKc.out _ _ (hHeld.trans HOc.out.gro) (fun hHeld => ?_)
  clear hKc Kc
  try simp only [Act.put, List.setIfInBounds_toArray, List.set_cons_zero, List.set_cons_succ]
  refine wpAnyH_done (by kernel_rfl) ?_ _
  clear cdc
  have YC := Go.Lib.hid hHeld
  clear hHeld
  have HRC := Go.Lib.hid (HRac.out.table HBc.out HOc.out HTc.out HL2.out HAc.out.1)
  have HXC := Go.Lib.hid (HXB.out.gro YC.out hng)
  clear HRdc HTABc HRac HBXc HBc HOc HTc HXB
  go_upto_region 4 with fail
  have HRe := Go.Lib.hid HRC.out.drew
  have HWH := Go.Lib.hid HRe.out.whl
  have HC2 : Hid (∀ Y, Moves wc Y FW → Y.cell? ⟨g, 2, none⟩ = some (.pointer (some wd))) := Go.Lib.hid (fun Y m => Bxo.cell (cs := fsL sb n Ac N cc wd) ((m.block g HRC.out.box.lt HRC.out.gW.1).trans HRC.out.box) 2 rfl)
  have HC10 : Hid (∀ Y, Moves wc Y FW → Y.cell? ⟨w.heap.size, 10, none⟩ = some (.int .i64 f.until_)) := Go.Lib.hid (fun Y m => Bxo.cell (cs := flL f) ((m.block w.heap.size HXC.out.lt HNW.out).trans HXC.out) 10 rfl)
  try simp only [Act.put, List.setIfInBounds_toArray, List.set_cons_zero, List.set_cons_succ]
  refine wp_region_held_drew (S := fun Y => Moves wc Y FW) (by kernel_rfl) ?_ (fun hHeld => ?_)
  · exact moves_below (below_drew (Below.refl _ _))
  refine wpAnyH_take (i := 0) (oi := ⟨some 44, _, _, _, _, _⟩) (v := ?_) rfl (by kernel_rfl) (by kernel_rfl) (by kernel_rfl) (fun _ _ _ h => h) (Or.inl ⟨by rfl, ?_⟩) (by assumption) ?_
  rotate_left
  · intro w hSw; (try dsimp only at hSw); go_simp; (try with_reducible rfl)
  try simp only [Act.put, List.setIfInBounds_toArray, List.set_cons_zero, List.set_cons_succ]
  refine wpAnyH_take (i := 1) (oi := ⟨some 45, _, _, _, _, _⟩) (v := ?_) rfl (by kernel_rfl) (by kernel_rfl) (by kernel_rfl) (fun _ _ _ h => h) (Or.inl ⟨by rfl, ?_⟩) (by assumption) ?_
  rotate_left
  · intro w hSw; (try dsimp only at hSw); go_simp; (try with_reducible rfl)
  try simp only [Act.put, List.setIfInBounds_toArray, List.set_cons_zero, List.set_cons_succ]
  refine wpAnyH_take (i := 2) (oi := ⟨some 46, _, _, _, _, _⟩) (v := ?_) rfl (by kernel_rfl) (by kernel_rfl) (by kernel_rfl) (fun _ _ _ h => h) (Or.inl ⟨by rfl, ?_⟩) (by assumption) ?_
  rotate_left
  · intro w hSw; (try dsimp only at hSw); go_simp; (try with_reducible rfl)
  try simp only [Act.put, List.setIfInBounds_toArray, List.set_cons_zero, List.set_cons_succ]
  refine wpAnyH_take (i := 3) (oi := ⟨some 47, _, _, _, _, _⟩) (v := ?_) rfl (by kernel_rfl) (by kernel_rfl) (by kernel_rfl) (fun _ _ _ h => h) (Or.inl ⟨by rfl, ?_⟩) (by assumption) ?_
  rotate_left
  · intro w hSw; have zc := HC2.out _ hSw; (try dsimp only at hSw); go_simp; (try with_reducible rfl)
  try simp only [Act.put, List.setIfInBounds_toArray, List.set_cons_zero, List.set_cons_succ]
  refine wpAnyH_take (i := 4) (oi := ⟨some 48, _, _, _, _, _⟩) (v := ?_) rfl (by kernel_rfl) (by kernel_rfl) (by kernel_rfl) (fun _ _ _ h => h) (Or.inl ⟨by rfl, ?_⟩) (by assumption) ?_
  rotate_left
  · intro w hSw; (try dsimp only at hSw); go_simp; (try with_reducible rfl)
  try simp only [Act.put, List.setIfInBounds_toArray, List.set_cons_zero, List.set_cons_succ]
  refine wpAnyH_take (i := 5) (oi := ⟨some 49, _, _, _, _, _⟩) (v := ?_) rfl (by kernel_rfl) (by kernel_rfl) (by kernel_rfl) (fun _ _ _ h => h) (Or.inl ⟨by rfl, ?_⟩) (by assumption) ?_
  rotate_left
  · intro w hSw; (try dsimp only at hSw); go_simp; (try with_reducible rfl)
  try simp only [Act.put, List.setIfInBounds_toArray, List.set_cons_zero, List.set_cons_succ]
  refine wpAnyH_take (i := 6) (oi := ⟨some 50, _, _, _, _, _⟩) (v := ?_) rfl (by kernel_rfl) (by kernel_rfl) (by kernel_rfl) (fun _ _ _ h => h) (Or.inl ⟨by rfl, ?_⟩) (by assumption) ?_
  rotate_left
  · intro w hSw; have zc := HC10.out _ hSw; (try dsimp only at hSw); go_simp; (try with_reducible rfl)
  try simp only [Act.put, List.setIfInBounds_toArray, List.set_cons_zero, List.set_cons_succ]
  refine wpAnyH_ready (rs := [7]) (by kernel_rfl) (by simp) (AllReadyH.cons (o := ⟨some 51, _, _, _, _, _⟩) rfl (fun Kc hKc => ?_) AllReadyH.nil)
  go_simp
  go_at_call 39; refine (kWheel.set HWH.out (i : Int) f.until_ _ EX.out).mono ?_; rintro e w6 ⟨FW6, rfl, r6, n6, m6⟩; have HR6 := Go.Lib.hid (HRe.out.wheel r6 n6 m6); have N6 := Go.Lib.hid n6; clear r6 n6; dsimp only
  refine hKc.out _ _ (hHeld.trans m6) (fun hHeld => ?_)
  clear hKc Kc
  try simp only [Act.put, List.setIfInBounds_toArray, List.set_cons_zero, List.set_cons_succ]
  refine wpAnyH_done (by kernel_rfl) ?_ _
  have m7 := hHeld
  clear hHeld
  go_wp2
  go_end0
  have hs1 := M1.out.size
  have hs2 := YB.out.size
  have hs3 := YC.out.size
  have n1 : Newer w (FB g sb T FW) (FB g sb Ab FW) := (Newer.same w _).next HAb.out.2 hs1
  have n2 : Newer w (FB g sb T FW) (FB g sb Ac FW) := n1.next HAc.out.2 (Nat.le_trans hs1 hs2)
  have n3 : Newer w (FB g sb T FW) (FB g sb Ac FW6) := n2.next (newer_wheel N6.out) (Nat.le_trans hs1 (Nat.le_trans hs2 hs3))
  exact ⟨rfl, Ac, cc, FW6, HR6.out, n3, ((M1.out.trans (gro_moves YB.out (.inl rfl))).trans (gro_moves YC.out (.inl rfl))).trans (m7.mono (fun b hb => .inr (.inr (.inr hb))))⟩
/-- a flow was taken out of its slot and of the table. -/
def Took (w w' : World) (g sb n N : Nat) (l : List (Option Fl)) (t : List Cl) (T : Option Addr) (wd : Addr) (x : Wh) (FW : Nat → Prop) : Prop := ∃ T' c', FR w' g sb n N l t T' c' wd x FW ∧ Newer w (FB g sb T FW) (FB g sb T' FW) ∧ Moves w w' (FB g sb T FW)
set_option maxRecDepth 100000 in
set_option maxHeartbeats 8000000 in
theorem ctakeF (h : FR w g sb n N l t T c wd x FW) (hbig : N ≤ 1024) (i : Nat) (f : Fl) (hf : slotF l i = some f) (rf : RngFl f) (T1 T2 : List Cl) (e1 : delC t f.there = (T1, 0)) (l1 : T1.length = N) (e2 : delC T1 f.back = (T2, 0)) (l2 : T2.length = N) :
    Calls Try.prog 37 #[.pointer (some ⟨g, 0, none⟩), .int .i64 (i : Int)] w fun e w' => e = .returned (flV f) ∧ Took w w' g sb n N (l.set i none) T2 T wd x FW := by
  have y0 : Below w.heap.size w (w.alloc (oFl fl0)) := (Below.refl _ _).alloc (Nat.le_refl _) _
  have hbx := Bxo.made w 40 (flL fl0)
  have HR := Go.Lib.hid (h.call y0)
  have hi : i < n := by rw [← h.len]; exact slot_lt hf
  have hns : w.heap.size ≠ sb := by have := h.row.lt; omega
  have hng : w.heap.size ≠ g := by have := h.box.lt; omega
  have hgl := h.box.lt
  have hsl := h.row.lt
  have HF : Hid (∀ j v, (flL f)[j]? = some v → (w.alloc (oFl fl0)).cell? ((⟨sb, i * 12, none⟩ : Addr).add j) = some v) := Go.Lib.hid (by have := HR.out.cell hi; rw [hf] at this; exact this)
  have HNB : Hid (¬ FB g sb T FW w.heap.size) := Go.Lib.hid (fun q => by have := h.lt _ q; omega)
  have HL := Go.Lib.hid h.tlen
  have HL1 := Go.Lib.hid l1
  have HL2 := Go.Lib.hid l2
  have HLEN := Go.Lib.hid h.len
  have RF := Go.Lib.hid rf
  have E1 := Go.Lib.hid e1
  have E2 := Go.Lib.hid e2
  have i1 : (0 : Int) ≤ (i : Int) := by omega
  have i2 : (i : Int) < (n : Int) := by omega
  have z0a : w.heap.size < (w.alloc (oFl fl0)).heap.size := by simp
  clear h hf rf e1 e2 l1 l2
  go_enter Try.func37, Try.ntmps37
  go_upto_region 1 with fail
  generalize w.alloc (oFl fl0) = W at *
  have HZ := Go.Lib.hid hbx
  clear hbx
  have c0 := HR.out.box.cell 0 rfl
  go_upto_region 2 with (refine wpList_load_at rfl 40 _ rfl ⟨sb, i * 12, none⟩ rfl (flL f) _ HF.out Try.underlying40 rfl info_fl ?_)
  have y1 : Below W.heap.size W (W.alloc (oFl f)) := (Below.refl _ _).alloc (Nat.le_refl _) _
  have hb1 := Bxo.made W 40 (flL f)
  have HR1 := Go.Lib.hid (HR.out.call y1)
  have HZ1 := Go.Lib.hid (HZ.out.keep y1 HZ.out.lt)
  have z1a : W.heap.size < (W.alloc (oFl f)).heap.size := by simp
  generalize W.alloc (oFl f) = W1 at *
  have HX1 := Go.Lib.hid hb1
  clear hb1 HZ HF c0
  have c0 := HR1.out.box.cell 0 rfl
  obtain ⟨cur, hcur⟩ : ∃ cur, (flowsF l).flatMap Fl.L = cur := ⟨_, rfl⟩
  have hcl : i * 12 + 12 ≤ cur.length := by
    have h1 := flat_len Fl.L 12 Fl.len (flowsF l)
    rw [hcur, flows_len, HLEN.out] at h1
    have : (i + 1) * 12 ≤ n * 12 := Nat.mul_le_mul_right 12 (by omega)
    omega
  have HROW : Hid (Bxo W1 sb 40 cur) := Go.Lib.hid (by rw [← hcur]; exact HR1.out.row)
  have HCUR := Go.Lib.hid hcur
  clear hcur
  go_upto_region 3 with (refine wpList_store_any rfl 40 _ _ rfl sb (i * 12) 40 _ (flL fl0) _ rfl rfl rfl HROW.out info_fl hcl (by simp [Value.oneCell']) ?_; intro w2 hb2 ho2; have HB2 := Go.Lib.hid hb2; have HO2 := Go.Lib.hid ho2; clear hb2 ho2)
  have HR2 := Go.Lib.hid (HR1.out.slot hi none (by rw [HCUR.out]; exact HB2.out) HO2.out)
  have HX2 := Go.Lib.hid (HX1.out.only HO2.out (by omega))
  have HZ2 := Go.Lib.hid (HZ1.out.only HO2.out (by omega))
  have M2 := Go.Lib.hid ((moves_below (F := FB g sb T FW) y0).trans ((moves_below y1).trans (gro_moves HO2.out.gro (.inr (.inl rfl)))))
  have hgW : W.heap.size ≠ g := by omega
  clear HR HR1 HROW HB2 HX1 HZ1 c0
  have HRdb := Go.Lib.hid HR2.out.drew
  have HTABb := Go.Lib.hid HRdb.out.tab
  have cdb := HRdb.out.box.cell 1 rfl
  try simp only [Act.put, List.setIfInBounds_toArray, List.set_cons_zero, List.set_cons_succ]
  refine wp_region_held_drew (S := fun Y => Gro g w2 Y) (by kernel_rfl) ?_ (fun hHeld => ?_)
  · exact (gro_below (below_drew (Below.refl _ _)))
  refine wpAnyH_take (i := 0) (oi := ⟨some 21, _, _, _, _, _⟩) (v := ?_) rfl (by kernel_rfl) (by kernel_rfl) (by kernel_rfl) (fun _ _ _ h => h) (Or.inl ⟨by rfl, ?_⟩) (by assumption) ?_
  rotate_left
  · intro w hSw; (try dsimp only at hSw); go_simp; (try with_reducible rfl)
  try simp only [Act.put, List.setIfInBounds_toArray, List.set_cons_zero, List.set_cons_succ]
  refine wpAnyH_take (i := 1) (oi := ⟨some 22, _, _, _, _, _⟩) (v := ?_) rfl (by kernel_rfl) (by kernel_rfl) (by kernel_rfl) (fun _ _ _ h => h) (Or.inl ⟨by rfl, ?_⟩) (by assumption) ?_
  rotate_left
  · intro w hSw; (try dsimp only at hSw); go_simp; (try with_reducible rfl)
  try simp only [Act.put, List.setIfInBounds_toArray, List.set_cons_zero, List.set_cons_succ]
  refine wpAnyH_take (i := 2) (oi := ⟨some 23, _, _, _, _, _⟩) (v := ?_) rfl (by kernel_rfl) (by kernel_rfl) (by kernel_rfl) (fun _ _ _ h => h) (Or.inl ⟨by rfl, ?_⟩) (by assumption) ?_
  rotate_left
  · intro w hSw; (try dsimp only at hSw); go_simp; (try with_reducible rfl)
  try simp only [Act.put, List.setIfInBounds_toArray, List.set_cons_zero, List.set_cons_succ]
  refine wpAnyH_take (i := 3) (oi := ⟨some 24, _, _, _, _, _⟩) (v := ?_) rfl (by kernel_rfl) (by kernel_rfl) (by kernel_rfl) (fun _ _ _ h => h) (Or.inl ⟨by rfl, ?_⟩) (by assumption) ?_
  rotate_left
  · intro w hSw; (try dsimp only at hSw); go_simp; (try with_reducible rfl)
  try simp only [Act.put, List.setIfInBounds_toArray, List.set_cons_zero, List.set_cons_succ]
  refine wpAnyH_take (i := 5) (oi := ⟨some 26, _, _, _, _, _⟩) (v := ?_) rfl (by kernel_rfl) (by kernel_rfl) (by kernel_rfl) (fun _ _ _ h => h) (Or.inl ⟨by rfl, ?_⟩) (by assumption) ?_
  rotate_left
  · intro w hSw; (try dsimp only at hSw); go_simp; (try with_reducible rfl)
  try simp only [Act.put, List.setIfInBounds_toArray, List.set_cons_zero, List.set_cons_succ]
  refine wpAnyH_take (i := 6) (oi := ⟨some 27, _, _, _, _, _⟩) (v := (tpV f.there)) rfl (by kernel_rfl) (by kernel_rfl) (by kernel_rfl) (fun _ _ _ h => h) (yieldsIf_load_at (by rfl) 38 _ rfl ⟨W.heap.size, 0, none⟩ rfl (tpL f.there) _ (fun Y y => (HX2.out.gro y hgW).there) Try.underlying38 rfl info_tp) (by assumption) ?_
  try simp only [Act.put, List.setIfInBounds_toArray, List.set_cons_zero, List.set_cons_succ]
  refine wpAnyH_ready (rs := [4]) (by kernel_rfl) (by simp) (AllReadyH.cons (o := ⟨some 25, _, _, _, _, _⟩) rfl (fun Kc hKc => ?_) AllReadyH.nil)
  go_simp
  refine hKc.out _ _ (hHeld) (fun hHeld => ?_)
  clear hKc Kc
  try simp only [Act.put, List.setIfInBounds_toArray, List.set_cons_zero, List.set_cons_succ]
  refine wpAnyH_ready (rs := [7]) (by kernel_rfl) (by simp) (AllReadyH.cons (o := ⟨some 28, _, _, _, _, _⟩) rfl (fun Kc hKc => ?_) AllReadyH.nil)
  go_simp
  go_at_call 50; refine (cdel10 t T c N f.there _ _ HL.out HTABb.out hbig RF.out.there E1.out).mono ?_; rintro e wab ht; obtain ⟨Ab, cb, rfl, htb, yab, hAb⟩ := ht.nf HL1.out; have HRab := Go.Lib.hid (HRdb.out.call yab); have HTb := Go.Lib.hid htb; have HAb := Go.Lib.hid (HRdb.out.apart hAb); have HBXb := Go.Lib.hid HRab.out.box; clear htb hAb; dsimp only
  refine hKc.out _ _ (hHeld.trans (gro_below yab)) (fun hHeld => ?_)
  clear hKc Kc
  try simp only [Act.put, List.setIfInBounds_toArray, List.set_cons_zero, List.set_cons_succ]
  refine wpAnyH_take (i := 8) (oi := ⟨some 20, _, _, _, _, _⟩) (v := ?_) rfl (by kernel_rfl) (by kernel_rfl) (by kernel_rfl) (fun _ _ _ h => h) (Or.inl ⟨by rfl, ?_⟩) (by assumption) ?_
  rotate_left
  · intro w hSw; (try dsimp only at hSw); go_simp; (try with_reducible rfl)
  try simp only [Act.put, List.setIfInBounds_toArray, List.set_cons_zero, List.set_cons_succ]
  refine wpAnyH_take (i := 9) (oi := ⟨some 29, _, _, _, _, _⟩) (v := ?_) rfl (by kernel_rfl) (by kernel_rfl) (by kernel_rfl) (fun _ _ _ h => h) (Or.inl ⟨by rfl, ?_⟩) (by assumption) ?_
  rotate_left
  · intro w hSw; (try dsimp only at hSw); go_simp; (try with_reducible rfl)
  try simp only [Act.put, List.setIfInBounds_toArray, List.set_cons_zero, List.set_cons_succ]
  refine wpAnyH_take (i := 10) (oi := ⟨some 30, _, _, _, _, _⟩) (v := ?_) rfl (by kernel_rfl) (by kernel_rfl) (by kernel_rfl) (fun _ _ _ h => h) (Or.inl ⟨by rfl, ?_⟩) (by assumption) ?_
  rotate_left
  · intro w hSw; (try dsimp only at hSw); go_simp; (try with_reducible rfl)
  try simp only [Act.put, List.setIfInBounds_toArray, List.set_cons_zero, List.set_cons_succ]
  refine wpAnyH_take (i := 11) (oi := ⟨some 31, _, _, _, _, _⟩) (v := ?_) rfl (by kernel_rfl) (by kernel_rfl) (by kernel_rfl) (fun _ _ _ h => h) (Or.inl ⟨by rfl, ?_⟩) (by assumption) ?_
  rotate_left
  · intro w hSw; (try dsimp only at hSw); go_simp; (try with_reducible rfl)
  try simp only [Act.put, List.setIfInBounds_toArray, List.set_cons_zero, List.set_cons_succ]
  refine wpAnyH_take (i := 12) (oi := ⟨some 32, _, _, _, _, _⟩) (v := ?_) rfl (by kernel_rfl) (by kernel_rfl) (by kernel_rfl) (fun _ _ _ h => h) (Or.inl ⟨by rfl, ?_⟩) (by assumption) ?_
  rotate_left
  · intro w hSw; (try dsimp only at hSw); go_simp; (try with_reducible rfl)
  try simp only [Act.put, List.setIfInBounds_toArray, List.set_cons_zero, List.set_cons_succ]
  refine wpAnyH_ready (rs := [13]) (by kernel_rfl) (by simp) (AllReadyH.cons (o := ⟨none, _, _, _, _, _⟩) rfl (fun Kc hKc => ?_) AllReadyH.nil)
  rw [if_pos (by rfl)]
  refine step_store_any 68 _ _ rfl g 1 75 _ [.slice Ab N cb] _ rfl rfl rfl HBXb.out info_csl (by show 1 + 1 ≤ 3; omega) (by simp [Value.oneCell']) ?_; intro wb hbb hob; have HBb : Hid (Bxo wb g 75 (fsL sb n Ab N cb wd)) := Go.Lib.hid hbb; have HOb := Go.Lib.hid hob; clear hbb hob
  refine hKc.out _ _ (hHeld.trans HOb.out.gro) (fun hHeld => ?_)
  clear hKc Kc
  try simp only [Act.put, List.setIfInBounds_toArray, List.set_cons_zero, List.set_cons_succ]
  refine wpAnyH_done (by kernel_rfl) ?_ _
  clear cdb
  have YB := Go.Lib.hid hHeld
  clear hHeld
  have HRB := Go.Lib.hid (HRab.out.table HBb.out HOb.out HTb.out HL1.out HAb.out.1)
  have HXB := Go.Lib.hid (HX2.out.gro YB.out hgW)
  have HZB := Go.Lib.hid (HZ2.out.gro YB.out hng)
  clear HRdb HTABb HRab HBXb HBb HOb HTb HX2 HZ2 HR2
  go_upto_region 4 with fail
  have HRdc := Go.Lib.hid HRB.out.drew
  have HTABc := Go.Lib.hid HRdc.out.tab
  have cdc := HRdc.out.box.cell 1 rfl
  try simp only [Act.put, List.setIfInBounds_toArray, List.set_cons_zero, List.set_cons_succ]
  refine wp_region_held_drew (S := fun Y => Gro g wb Y) (by kernel_rfl) ?_ (fun hHeld => ?_)
  · exact (gro_below (below_drew (Below.refl _ _)))
  refine wpAnyH_take (i := 0) (oi := ⟨some 34, _, _, _, _, _⟩) (v := ?_) rfl (by kernel_rfl) (by kernel_rfl) (by kernel_rfl) (fun _ _ _ h => h) (Or.inl ⟨by rfl, ?_⟩) (by assumption) ?_
  rotate_left
  · intro w hSw; (try dsimp only at hSw); go_simp; (try with_reducible rfl)
  try simp only [Act.put, List.setIfInBounds_toArray, List.set_cons_zero, List.set_cons_succ]
  refine wpAnyH_take (i := 1) (oi := ⟨some 35, _, _, _, _, _⟩) (v := ?_) rfl (by kernel_rfl) (by kernel_rfl) (by kernel_rfl) (fun _ _ _ h => h) (Or.inl ⟨by rfl, ?_⟩) (by assumption) ?_
  rotate_left
  · intro w hSw; (try dsimp only at hSw); go_simp; (try with_reducible rfl)
  try simp only [Act.put, List.setIfInBounds_toArray, List.set_cons_zero, List.set_cons_succ]
  refine wpAnyH_take (i := 2) (oi := ⟨some 36, _, _, _, _, _⟩) (v := ?_) rfl (by kernel_rfl) (by kernel_rfl) (by kernel_rfl) (fun _ _ _ h => h) (Or.inl ⟨by rfl, ?_⟩) (by assumption) ?_
  rotate_left
  · intro w hSw; (try dsimp only at hSw); go_simp; (try with_reducible rfl)
  try simp only [Act.put, List.setIfInBounds_toArray, List.set_cons_zero, List.set_cons_succ]
  refine wpAnyH_take (i := 3) (oi := ⟨some 37, _, _, _, _, _⟩) (v := ?_) rfl (by kernel_rfl) (by kernel_rfl) (by kernel_rfl) (fun _ _ _ h => h) (Or.inl ⟨by rfl, ?_⟩) (by assumption) ?_
  rotate_left
  · intro w hSw; (try dsimp only at hSw); go_simp; (try with_reducible rfl)
  try simp only [Act.put, List.setIfInBounds_toArray, List.set_cons_zero, List.set_cons_succ]
  refine wpAnyH_take (i := 5) (oi := ⟨some 39, _, _, _, _, _⟩) (v := ?_) rfl (by kernel_rfl) (by kernel_rfl) (by kernel_rfl) (fun _ _ _ h => h) (Or.inl ⟨by rfl, ?_⟩) (by assumption) ?_
  rotate_left
  · intro w hSw; (try dsimp only at hSw); go_simp; (try with_reducible rfl)
  try simp only [Act.put, List.setIfInBounds_toArray, List.set_cons_zero, List.set_cons_succ]
  refine wpAnyH_take (i := 6) (oi := ⟨some 40, _, _, _, _, _⟩) (v := (tpV f.back)) rfl (by kernel_rfl) (by kernel_rfl) (by kernel_rfl) (fun _ _ _ h => h) (yieldsIf_load_at (by rfl) 38 _ rfl ⟨W.heap.size, 5, none⟩ rfl (tpL f.back) _ (fun Y y => (HXB.out.gro y hgW).back) Try.underlying38 rfl info_tp) (by assumption) ?_
  try simp only [Act.put, List.setIfInBounds_toArray, List.set_cons_zero, List.set_cons_succ]
  refine wpAnyH_ready (rs := [4]) (by kernel_rfl) (by simp) (AllReadyH.cons (o := ⟨some 38, _, _, _, _, _⟩) rfl (fun Kc hKc => ?_) AllReadyH.nil)
  go_simp
  refine hKc.out _ _ (hHeld) (fun hHeld => ?_)
  clear hKc Kc
  try simp only [Act.put, List.setIfInBounds_toArray, List.set_cons_zero, List.set_cons_succ]
  refine wpAnyH_ready (rs := [7]) (by kernel_rfl) (by simp) (AllReadyH.cons (o := ⟨some 41, _, _, _, _, _⟩) rfl (fun Kc hKc => ?_) AllReadyH.nil)
  go_simp
  go_at_call 50; refine (cdel10 T1 Ab cb N f.back _ _ HL1.out HTABc.out hbig RF.out.back E2.out).mono ?_; rintro e wac ht; obtain ⟨Ac, cc, rfl, htc, yac, hAc⟩ := ht.nf HL2.out; have HRac := Go.Lib.hid (HRdc.out.call yac); have HTc := Go.Lib.hid htc; have HAc := Go.Lib.hid (HRdc.out.apart hAc); have HBXc := Go.Lib.hid HRac.out.box; clear htc hAc; dsimp only
  refine hKc.out _ _ (hHeld.trans (gro_below yac)) (fun hHeld => ?_)
  clear hKc Kc
  try simp only [Act.put, List.setIfInBounds_toArray, List.set_cons_zero, List.set_cons_succ]
  refine wpAnyH_take (i := 8) (oi := ⟨some 33, _, _, _, _, _⟩) (v := ?_) rfl (by kernel_rfl) (by kernel_rfl) (by kernel_rfl) (fun _ _ _ h => h) (Or.inl ⟨by rfl, ?_⟩) (by assumption) ?_
  rotate_left
  · intro w hSw; (try dsimp only at hSw); go_simp; (try with_reducible rfl)
  try simp only [Act.put, List.setIfInBounds_toArray, List.set_cons_zero, List.set_cons_succ]
  refine wpAnyH_take (i := 9) (oi := ⟨some 42, _, _, _, _, _⟩) (v := ?_) rfl (by kernel_rfl) (by kernel_rfl) (by kernel_rfl) (fun _ _ _ h => h) (Or.inl ⟨by rfl, ?_⟩) (by assumption) ?_
  rotate_left
  · intro w hSw; (try dsimp only at hSw); go_simp; (try with_reducible rfl)
  try simp only [Act.put, List.setIfInBounds_toArray, List.set_cons_zero, List.set_cons_succ]
  refine wpAnyH_take (i := 10) (oi := ⟨some 43, _, _, _, _, _⟩) (v := ?_) rfl (by kernel_rfl) (by kernel_rfl) (by kernel_rfl) (fun _ _ _ h => h) (Or.inl ⟨by rfl, ?_⟩) (by assumption) ?_
  rotate_left
  · intro w hSw; (try dsimp only at hSw); go_simp; (try with_reducible rfl)
  try simp only [Act.put, List.setIfInBounds_toArray, List.set_cons_zero, List.set_cons_succ]
  refine wpAnyH_take (i := 11) (oi := ⟨some 44, _, _, _, _, _⟩) (v := ?_) rfl (by kernel_rfl) (by kernel_rfl) (by kernel_rfl) (fun _ _ _ h => h) (Or.inl ⟨by rfl, ?_⟩) (by assumption) ?_
  rotate_left
  · intro w hSw; (try dsimp only at hSw); go_simp; (try with_reducible rfl)
  try simp only [Act.put, List.setIfInBounds_toArray, List.set_cons_zero, List.set_cons_succ]
  refine wpAnyH_take (i := 12) (oi := ⟨some 45, _, _, _, _, _⟩) (v := ?_) rfl (by kernel_rfl) (by kernel_rfl) (by kernel_rfl) (fun _ _ _ h => h) (Or.inl ⟨by rfl, ?_⟩) (by assumption) ?_
  rotate_left
  · intro w hSw; (try dsimp only at hSw); go_simp; (try with_reducible rfl)
  try simp only [Act.put, List.setIfInBounds_toArray, List.set_cons_zero, List.set_cons_succ]
  refine wpAnyH_ready (rs := [13]) (by kernel_rfl) (by simp) (AllReadyH.cons (o := ⟨none, _, _, _, _, _⟩) rfl (fun Kc hKc => ?_) AllReadyH.nil)
  rw [if_pos (by rfl)]
  refine step_store_any 68 _ _ rfl g 1 75 _ [.slice Ac N cc] _ rfl rfl rfl HBXc.out info_csl (by show 1 + 1 ≤ 3; omega) (by simp [Value.oneCell']) ?_; intro wc hbc hoc; have HBc : Hid (Bxo wc g 75 (fsL sb n Ac N cc wd)) := Go.Lib.hid hbc; have HOc := Go.Lib.hid hoc; clear hbc hoc
  refine hKc.out _ _ (hHeld.trans HOc.out.gro) (fun hHeld => ?_)
  clear hKc Kc
  try simp only [Act.put, List.setIfInBounds_toArray, List.set_cons_zero, List.set_cons_succ]
  refine wpAnyH_done (by kernel_rfl) ?_ _
  clear cdc
  have YC := Go.Lib.hid hHeld
  clear hHeld
  have HRC := Go.Lib.hid (HRac.out.table HBc.out HOc.out HTc.out HL2.out HAc.out.1)
  have HXC := Go.Lib.hid (HXB.out.gro YC.out hgW)
  have HZC := Go.Lib.hid (HZB.out.gro YC.out hng)
  clear HRdc HTABc HRac HBXc HBc HOc HTc HXB HZB
  go_wp2_with (first
    | (refine wpList_load_box rfl 40 _ rfl W.heap.size rfl (flL f) _ HXC.out Try.underlying40 rfl info_fl ?_)
    | (refine wpList_store_any rfl 40 _ _ rfl w.heap.size 0 40 _ (flL f) _ rfl rfl rfl HZC.out info_fl (by show 0 + 12 ≤ 12; omega) (by simp [Value.oneCell']) ?_; intro w5 hb5 ho5; have HB5 : Hid (Bxo w5 w.heap.size 40 (flL f)) := Go.Lib.hid hb5; have HO5 := Go.Lib.hid ho5; clear hb5 ho5))
  have hs1 := M2.out.size
  have hs2 := YB.out.size
  have hs3 := YC.out.size
  have n1 : Newer w (FB g sb T FW) (FB g sb Ab FW) := (Newer.same w _).next HAb.out.2 hs1
  have n2 : Newer w (FB g sb T FW) (FB g sb Ac FW) := n1.next HAc.out.2 (Nat.le_trans hs1 hs2)
  have m4 := (M2.out.trans (gro_moves YB.out (.inl rfl))).trans (gro_moves YC.out (.inl rfl))
  have hs0 := HO2.out.size
  have HNC : Hid (¬ FB g sb Ac FW w.heap.size) := Go.Lib.hid (fun q => (HAc.out.2 _ q).elim (fun q => (HAb.out.2 _ q).elim HNB.out (fun q => by have h1 : w2.heap.size ≤ w.heap.size := q; omega)) (fun q => by have h1 : wb.heap.size ≤ w.heap.size := q; omega))
  refine bodyPost_ret (v := flV f) (results_cell_row rfl _ _ w.heap.size 40 _ _ _ rfl HB5.out Try.underlying40 rfl info_fl) rfl ⟨rfl, Ac, cc, HRC.out.keep (fun b hb => HO5.out.block b (fun e => HNC.out (e ▸ hb))) (Nat.le_of_eq HO5.out.size.symm), n2, ?_⟩
  exact ⟨HO5.out.os.trans m4.os, HO5.out.tape.trans m4.tape, HO5.out.output.trans m4.output, by rw [HO5.out.size]; exact m4.size, fun k hk hn => (HO5.out.block k (by omega)).trans (m4.block k hk hn)⟩
theorem Took.moves (h : Took w w' g sb n N l t T wd x FW) : Moves w w' (FB g sb T FW) := by
  obtain ⟨_, _, _, _, h⟩ := h
  exact h
end
end Go.Proofs.Ytofpalmghdapkaa
