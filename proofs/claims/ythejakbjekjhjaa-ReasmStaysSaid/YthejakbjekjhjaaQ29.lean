/- Lemmas of layer 7, several texts in one. -/
import Derived.Deep.RegionHeld3
import Derived.Deep.DeepCutAuto
import Derived.Test.YthejakbjekjhjaaQ03
import Derived.Test.YthejakbjekjhjaaQ25
/- A statement of layer 7: whatever comes, a pool stays right. -/
namespace Go.Proofs.Ythejakbjekjhjaa
open Go.ChangeShapes Go.WideShapes Go.ChangeAt Go.RowKit
set_option linter.unusedVariables false
set_option linter.unusedSimpArgs false

/-- ahead of the packet k: the pool's box, and the pool. -/
structure StI (w : World) (bp : Nat) (room life now : Int) (k : Nat) (wr : World) (V : Nat → Prop) (p : Po) (A : Option Addr) (c : Nat) : Prop where
  below : Below w.heap.size w wr
  box : Bxo wr bp 27 (poL p A c)
  is : PoAt wr V p A c
  out : ¬ V bp
  b0 : w.heap.size ≤ bp
  st : StP room life now k p
section
variable {w wr wx wy : World} {bp k c c' g : Nat} {room life now : Int} {V V' : Nat → Prop} {p q : Po} {A A' : Option Addr}
theorem StI.step (h : StI w bp room life now k wr V p A c) (y : Below wr.heap.size wr wx) : StI w bp room life now k wx V p A c :=
  ⟨h.below.trans (y.mono h.below.size), h.box.keep y h.box.lt, h.is.at y, h.out, h.b0, h.st⟩
theorem StI.next (h : StI w bp room life now k wr V p A c) : StI w bp room life now (k + 1) wr V p A c := ⟨h.below, h.box, h.is, h.out, h.b0, h.st.next⟩
/-- another pool is put into the box. -/
theorem StI.put {now' : Int} {k' : Nat} (h : StI w bp room life now k wr V p A c) (y : Below wr.heap.size wr wx) (hq : PoAt wx V' q A' c') (hn : ¬ V' bp) (ho : Only bp wx wy) (hb : Bxo wy bp 27 (poL q A' c')) (st : StP room life now' k' q) : StI w bp room life now' k' wy V' q A' c' :=
  ⟨(h.below.trans (y.mono h.below.size)).trans (ho.below h.b0), hb, hq.only ho hn, hn, h.b0, st⟩
end
theorem pk_keep {w wr : World} {ad : Addr} {k : Nat} {x : Pk} {Ao : Option Addr} {co : Nat} {Ab : Option Addr} {cb : Nat} {V : Nat → Prop} (h : PkCells wr V ad k x Ao co Ab cb) (hv : V ad.block) (lt : ∀ b, V b → b < wr.heap.size) : ∀ Y, Below wr.heap.size wr Y → ∀ j v, (pkL x Ao co Ab cb)[j]? = some v → Y.cell? ((ad.add k).add j) = some v := fun Y y => by
  have h2 := h.keep (KeepV.of y lt) hv
  refine list_cells fun j hj => ?_
  rw [add_add]
  match j, hj with
  | 0, _ => exact h2.c0
  | 1, _ => exact h2.c1
  | 2, _ => exact h2.c2
  | 3, _ => exact h2.c3
  | 4, _ => exact h2.c4
  | 5, _ => exact h2.c5
  | 6, _ => exact h2.c6
  | 7, _ => exact h2.c7
  | 8, _ => exact h2.c8
  | 9, _ => exact h2.c9
  | 10, _ => exact h2.c10
  | n + 11, hj => exact absurd hj (by simp)
def smallX (x : Pk) : Bool := decide (x.body.length ≤ 300) && decide (x.opts.length ≤ 40)
set_option maxRecDepth 100000 in
set_option maxHeartbeats 16000000 in
theorem reasmStays (room life : Int) (A : Option Addr) (c : Nat) (l : List Pk) (A' : Option Addr) (c' : Nat) (l' : List UInt8) (w : World) (hr : Ps w (oldV w) A l) (hc : l.length ≤ c) (hm : c ≤ 9223372036854775807) (hr' : Bs w w.heap.size A' l') (hc' : l'.length ≤ c') (hm' : c' ≤ 9223372036854775807) :
    Calls Try.prog 3 #[.int .i64 room, .int .i64 life, .slice A l.length c, .slice A' l'.length c'] w fun e w' => e = .returned (.bool true) ∧ Below w.heap.size w w' := by
  have HL := Go.Lib.hid hr
  have HT2 := Go.Lib.hid hr'
  clear hr hr'
  go_enter Try.func3, Try.ntmps3
  go_wp2_with fail
  refine (cawake w).mono ?_
  rintro e w1 ⟨rfl, y1⟩
  dsimp only
  by_cases hN : 1 ≤ room ∧ room ≤ 1048576 ∧ 1 ≤ life ∧ life ≤ 1048576
  · go_wp2_with fail
    refine (cnew room life w1 ⟨room, life, 0, []⟩ 0 (if_pos hN)).mono ?_
    rintro e w2 ⟨Ap, cp, rfl, hp, y2⟩
    dsimp only
    have x2 := y1.trans (y2.mono y1.size)
    have HP := Go.Lib.hid hp
    clear hp
    go_upto_region 4 with fail
    have p3 : Bxo (w2.alloc (poO ⟨room, life, 0, []⟩ Ap cp)) w2.heap.size 27 (poL ⟨room, life, 0, []⟩ Ap cp) := Bxo.made w2 27 (poL ⟨room, life, 0, []⟩ Ap cp)
    have y3 : Below w2.heap.size w2 (w2.alloc (poO ⟨room, life, 0, []⟩ Ap cp)) := (Below.refl _ _).alloc (Nat.le_refl _) _
    have s3 : w2.heap.size < (w2.alloc (poO ⟨room, life, 0, []⟩ Ap cp)).heap.size := by simp
    have x3 := x2.trans (y3.mono x2.size)
    have H3 := Go.Lib.hid (HP.out.at y3)
    have V3 : ¬ growV (fun _ => False) w1 w2 w2.heap.size := fun h => by rcases h with h | h; exact h; omega
    have V0 : w.heap.size ≤ w2.heap.size := x2.size
    clear HP y3 x2 y2 y1
    generalize growV (fun _ => False) w1 w2 = V at *
    generalize w2.alloc (poO ⟨room, life, 0, []⟩ Ap cp) = W at *
    generalize w2.heap.size = bp at *
    by_cases h60 : l.length ≤ 60
    · go_wp2
      have hl := HL.out.keep (KeepV.of x3 (fun b h => h))
      go_loop [11] (fun i => ∃ k : Nat, k ≤ l.length ∧ i = .int .i64 k ∧ Hid ((l.take k).all smallX = true)) (fun i => l.length - (intOf i).toNat)
      case atStart => exact ⟨0, by omega, rfl, Go.Lib.hid (by simp)⟩
      case round =>
        obtain ⟨k, hk, rfl, hU⟩ := hrel
        by_cases hlt : k < l.length
        · obtain ⟨ad, Ao, co, Ab, cb, rfl, hv, hx⟩ := hl.at_ hlt
          have HE := Go.Lib.hid (all_next smallX l k hlt)
          have i1 : (0 : Int) ≤ (k : Int) := by omega
          have i2 : (k : Int) < (l.length : Int) := by omega
          have e1 := at_off 9 hx.c9 (by omega)
          have e2 := at_off 10 hx.c10 (by omega)
          have q1 := hx.o.len
          have q2 := hx.o.cap
          have q3 := hx.b.len
          have q4 := hx.b.cap
          clear hx
          generalize hd : l[k] = y at *
          clear hd
          by_cases h1 : y.body.length ≤ 300
          · by_cases h2 : y.opts.length ≤ 40
            · go_wp2
              go_round
              case rel => exact ⟨k + 1, by omega, by go_num, Go.Lib.hid (by rw [HE.out, hU.out]; simp [smallX, h1, h2])⟩
              case measure => simp [intOf]; omega
            · go_wp2
              go_ret
              exact ⟨rfl, x3⟩
          · go_wp2
            go_ret
            exact ⟨rfl, x3⟩
        · obtain rfl : k = l.length := by omega
          have hS : Hid (l.all smallX = true) := Go.Lib.hid (by have := hU.out; rwa [List.take_length] at this)
          clear hU hl hk
          have hF := p3
          go_upto_region 13 with fail
          go_loopw [12, 13] (fun n i wr => ∃ (k : Nat) (now : Int) (Vr : Nat → Prop) (p : Po) (Aq : Option Addr) (cq : Nat), k ≤ l.length ∧ i = .int .i64 k ∧ n = .int .i64 now ∧ StI w bp room life now k wr Vr p Aq cq) (fun _ i _ => l.length - (intOf i).toNat)
          case atStart => exact ⟨0, 0, V, ⟨room, life, 0, []⟩, Ap, cp, by omega, rfl, rfl, ⟨x3, p3, H3.out, V3, V0, StP.start hN.1 hN.2.1 hN.2.2.1 hN.2.2.2⟩⟩
          case round =>
            obtain ⟨k, now, Vr, p, Aq, cq, hk, rfl, rfl, hI⟩ := hrel
            by_cases hlt : k < l.length
            · obtain ⟨ad, Ao, co, Ab, cb, rfl, hv, hx⟩ := (HL.out.keep (KeepV.of hI.below (fun b h => h))).at_ hlt
              have hsm := List.all_eq_true.1 hS.out _ (List.getElem_mem hlt)
              unfold smallX at hsm
              rw [Bool.and_eq_true, decide_eq_true_eq, decide_eq_true_eq] at hsm
              have xo : l[k].opts.length ≤ 16777216 := by omega
              have xb : l[k].body.length ≤ 16777216 := by omega
              have wle := hI.below.size
              have HXC := Go.Lib.hid (pk_keep hx hv (fun b hb => Nat.lt_of_lt_of_le hb wle) (w := w))
              have HX0 := Go.Lib.hid (hx.pk (fun b hb => Nat.lt_of_lt_of_le hb wle))
              clear hx hsm
              generalize l[k] = x at *
              have HI := Go.Lib.hid hI
              have hbl := hI.box.lt
              have hb0 := hI.b0
              clear hI
              obtain ⟨U, hU⟩ : ∃ U : Nat → Prop, U = fun b => Vr b ∨ b < w.heap.size := ⟨_, rfl⟩
              have HUlt : Hid (∀ b, U b → b < wr.heap.size) := Go.Lib.hid (by rw [hU]; exact fun b hb => hb.elim (HI.out.is.lt b) (fun h => Nat.lt_of_lt_of_le h wle))
              have HUN : Hid (¬ U bp) := Go.Lib.hid (by rw [hU]; exact fun hb => hb.elim HI.out.out (fun h => by omega))
              have HP : Hid (PoAt wr U p Aq cq) := Go.Lib.hid (HI.out.is.more (by rw [hU]; exact fun b h => .inl h) HUlt.out)
              have HX : Hid (PkAt wr U x Ao co Ab cb) := Go.Lib.hid (HX0.out.more (by rw [hU]; exact fun b h => .inr h) HUlt.out)
              have HB := Go.Lib.hid HI.out.box
              have HRT := Go.Lib.hid HI.out.st.right
              clear hU HX0
              obtain ⟨t, ht⟩ : ∃ t, takeP p x = t := ⟨_, rfl⟩
              have HTK := Go.Lib.hid ht
              have HST := Go.Lib.hid (HI.out.st.take x)
              rw [ht] at HST
              clear ht
              have i1 : (0 : Int) ≤ (k : Int) := by omega
              have i2 : (k : Int) < (l.length : Int) := by omega
              go_upto_region 15 with fail
              go_cut [14, 15, 16, 17] (fun a b c d wx => ∃ g9 g10 A' c' Ao' co' Ab' cb' U', a = .pointer (some ⟨g9, 0, none⟩) ∧ b = .pointer (some ⟨g10, 0, none⟩) ∧ c = .bool t.ok ∧ d = .int .i64 t.err ∧ TkD wr U t g9 g10 A' c' Ao' co' Ab' cb' U' wx)
              case first =>
                try simp only [Act.put, List.setIfInBounds_toArray, List.set_cons_zero, List.set_cons_succ]
                refine wp_region_held_drew (S := fun Y => Bxo Y bp 27 (poL p Aq cq) ∧ Below wr.heap.size wr Y) (by kernel_rfl) ?_ (fun hHeld => ?_)
                · exact ⟨HB.out, below_drew (Below.refl _ _)⟩
                have zd : wr.drew.heap.size ≤ wr.heap.size := Nat.le_refl _; have zd2 : wr.heap.size ≤ wr.drew.heap.size := Nat.le_refl _
                have HP := Go.Lib.hid (HP.out.at (below_drew (Below.refl _ _)))
                have HX := Go.Lib.hid (HX.out.at (below_drew (Below.refl _ _)))
                have BL : Hid (Below wr.heap.size wr wr.drew) := Go.Lib.hid (below_drew (Below.refl _ _))
                refine wpAnyH_take (i := 0) (oi := ⟨some 66, _, _, _, _, _⟩) (v := .agg (poL p Aq cq).toArray) rfl (by kernel_rfl) (by kernel_rfl) (by kernel_rfl) (fun _ _ _ h => h) (yieldsIf_load_at (by rfl) 27 _ rfl ⟨bp, 0, none⟩ rfl (poL p Aq cq) _ (fun Y h => h.1.at) Try.underlying27 rfl info_po) (by assumption) ?_
                try simp only [Act.put, List.setIfInBounds_toArray, List.set_cons_zero, List.set_cons_succ]
                refine wpAnyH_take (i := 1) (oi := ⟨some 67, _, _, _, _, _⟩) (v := ?_) rfl (by kernel_rfl) (by kernel_rfl) (by kernel_rfl) (fun _ _ _ h => h) (Or.inl ⟨by rfl, ?_⟩) (by assumption) ?_
                rotate_left
                · intro w hSw; (try dsimp only at hSw); go_simp; (try with_reducible rfl)
                try simp only [Act.put, List.setIfInBounds_toArray, List.set_cons_zero, List.set_cons_succ]
                refine wpAnyH_take (i := 2) (oi := ⟨some 68, _, _, _, _, _⟩) (v := ?_) rfl (by kernel_rfl) (by kernel_rfl) (by kernel_rfl) (fun _ _ _ h => h) (Or.inl ⟨by rfl, ?_⟩) (by assumption) ?_
                rotate_left
                · intro w hSw; (try dsimp only at hSw); go_simp; (try with_reducible rfl)
                try simp only [Act.put, List.setIfInBounds_toArray, List.set_cons_zero, List.set_cons_succ]
                refine wpAnyH_take (i := 3) (oi := ⟨some 69, _, _, _, _, _⟩) (v := ?_) rfl (by kernel_rfl) (by kernel_rfl) (by kernel_rfl) (fun _ _ _ h => h) (Or.inl ⟨by rfl, ?_⟩) (by assumption) ?_
                rotate_left
                · intro w hSw; (try dsimp only at hSw); go_simp; (try with_reducible rfl)
                try simp only [Act.put, List.setIfInBounds_toArray, List.set_cons_zero, List.set_cons_succ]
                refine wpAnyH_take (i := 4) (oi := ⟨some 70, _, _, _, _, _⟩) (v := ipV x Ao co Ab cb) rfl (by kernel_rfl) (by kernel_rfl) (by kernel_rfl) (fun _ _ _ h => h) (yieldsIf_pk (by rfl) _ rfl (ad.add (k * 11)) rfl x Ao co Ab cb (fun Y h => HXC.out Y h.2)) (by assumption) ?_
                try simp only [Act.put, List.setIfInBounds_toArray, List.set_cons_zero, List.set_cons_succ]
                refine wpAnyH_ready (rs := [5, 11, 12]) (by kernel_rfl) (by simp) (AllReadyH.cons (o := ⟨some 71, _, _, _, _, _⟩) rfl (fun Kc hKc => ?_) (AllReadyH.cons (o := ⟨some 14, _, _, _, _, _⟩) rfl (fun Kc hKc => ?_) (AllReadyH.cons (o := ⟨some 15, _, _, _, _, _⟩) rfl (fun Kc hKc => ?_) AllReadyH.nil)))
                ·
                  go_simp
                  go_at_call 8; refine (ctake p Aq cq x Ao co Ab cb _ _ t HTK.out HP.out HX.out HRT.out xo xb).mono ?_; rintro e7 w7 ⟨A7, c7, Ao7, co7, Ab7, cb7, rfl, hq, hk, y7⟩; have HQ := Go.Lib.hid hq; have HK := Go.Lib.hid hk; clear hq hk; have z7 := y7.size; dsimp only
                  have BL := Go.Lib.hid (BL.out.trans (y7.mono (by omega)))
                  refine hKc.out _ _ (⟨hHeld.1.keep y7 hHeld.1.lt, BL.out⟩) (fun hHeld => ?_)
                  clear hKc Kc
                  try simp only [Act.put, List.setIfInBounds_toArray, List.set_cons_zero, List.set_cons_succ]
                  refine wpAnyH_take (i := 6) (oi := ⟨some 65, _, _, _, _, _⟩) (v := ?_) rfl (by kernel_rfl) (by kernel_rfl) (by kernel_rfl) (fun _ _ _ h => h) (Or.inl ⟨by rfl, ?_⟩) (by assumption) ?_
                  rotate_left
                  · intro w hSw; (try dsimp only at hSw); go_simp; (try with_reducible rfl)
                  try simp only [Act.put, List.setIfInBounds_toArray, List.set_cons_zero, List.set_cons_succ]
                  refine wpAnyH_take (i := 7) (oi := ⟨some 72, _, _, _, _, _⟩) (v := ?_) rfl (by kernel_rfl) (by kernel_rfl) (by kernel_rfl) (fun _ _ _ h => h) (Or.inl ⟨by rfl, ?_⟩) (by assumption) ?_
                  rotate_left
                  · intro w hSw; (try dsimp only at hSw); go_simp; (try with_reducible rfl)
                  try simp only [Act.put, List.setIfInBounds_toArray, List.set_cons_zero, List.set_cons_succ]
                  refine wpAnyH_take (i := 8) (oi := ⟨some 73, _, _, _, _, _⟩) (v := ?_) rfl (by kernel_rfl) (by kernel_rfl) (by kernel_rfl) (fun _ _ _ h => h) (Or.inl ⟨by rfl, ?_⟩) (by assumption) ?_
                  rotate_left
                  · intro w hSw; (try dsimp only at hSw); go_simp; (try with_reducible rfl)
                  try simp only [Act.put, List.setIfInBounds_toArray, List.set_cons_zero, List.set_cons_succ]
                  refine wpAnyH_take (i := 9) (oi := ⟨some 74, _, _, _, _, _⟩) (v := ?_) rfl (by kernel_rfl) (by kernel_rfl) (by kernel_rfl) (fun _ _ _ h => h) (Or.inl ⟨by rfl, ?_⟩) (by assumption) ?_
                  rotate_left
                  · intro w hSw; (try dsimp only at hSw); go_simp; (try with_reducible rfl)
                  try simp only [Act.put, List.setIfInBounds_toArray, List.set_cons_zero, List.set_cons_succ]
                  refine wpAnyH_take (i := 10) (oi := ⟨some 75, _, _, _, _, _⟩) (v := ?_) rfl (by kernel_rfl) (by kernel_rfl) (by kernel_rfl) (fun _ _ _ h => h) (Or.inl ⟨by rfl, ?_⟩) (by assumption) ?_
                  rotate_left
                  · intro w hSw; (try dsimp only at hSw); go_simp; (try with_reducible rfl)
                  try simp only [Act.put, List.setIfInBounds_toArray, List.set_cons_zero, List.set_cons_succ]
                  refine wpAnyH_ready (rs := [11, 12]) (by kernel_rfl) (by simp) (AllReadyH.cons (o := ⟨some 14, _, _, _, _, _⟩) rfl (fun Kc hKc => ?_) (AllReadyH.cons (o := ⟨some 15, _, _, _, _, _⟩) rfl (fun Kc hKc => ?_) AllReadyH.nil))
                  ·
                    rw [if_pos (by rfl)]
                    refine step_alloc 27 rfl (poL po0 none 0) info_zpo ?_; intro g9 w9 e9 hb9 y9 z9
                    have HQ := Go.Lib.hid (HQ.out.at y9)
                    have HK := Go.Lib.hid (HK.out.at y9)
                    have BL := Go.Lib.hid (BL.out.trans (y9.mono (by omega)))
                    have F9 := Go.Lib.hid hb9; clear hb9
                    refine hKc.out _ _ (⟨hHeld.1.keep y9 hHeld.1.lt, BL.out⟩) (fun hHeld => ?_)
                    clear hKc Kc
                    try simp only [Act.put, List.setIfInBounds_toArray, List.set_cons_zero, List.set_cons_succ]
                    refine wpAnyH_ready (rs := [12]) (by kernel_rfl) (by simp) (AllReadyH.cons (o := ⟨some 15, _, _, _, _, _⟩) rfl (fun Kc hKc => ?_) AllReadyH.nil)
                    rw [if_pos (by rfl)]
                    refine step_alloc 33 rfl (pkL pk0 none 0 none 0) info_zpk ?_; intro g10 w10 e10 hb10 y10 z10
                    have HQ := Go.Lib.hid (HQ.out.at y10)
                    have HK := Go.Lib.hid (HK.out.at y10)
                    have F9 := Go.Lib.hid (F9.out.keep y10 F9.out.lt)
                    have BL := Go.Lib.hid (BL.out.trans (y10.mono (by omega)))
                    have F10 := Go.Lib.hid hb10; clear hb10
                    refine hKc.out _ _ (⟨hHeld.1.keep y10 hHeld.1.lt, BL.out⟩) (fun hHeld => ?_)
                    clear hKc Kc
                    try simp only [Act.put, List.setIfInBounds_toArray, List.set_cons_zero, List.set_cons_succ]
                    refine wpAnyH_ready (rs := [13]) (by kernel_rfl) (by simp) (AllReadyH.cons (o := ⟨none, _, _, _, _, _⟩) rfl (fun Kc hKc => ?_) AllReadyH.nil)
                    have HN9 : Hid (¬ growV U wr.drew w7 g9) := Go.Lib.hid (fun h => h.elim (fun k => by have := HUlt.out _ k; omega) (fun k => by omega))
                    have HN10 : Hid (¬ growV U wr.drew w7 g10) := Go.Lib.hid (fun h => h.elim (fun k => by have := HUlt.out _ k; omega) (fun k => by omega))
                    rw [if_pos (by rfl)]
                    refine step_store_whole 27 _ _ rfl g9 _ (poL t.pool A7 c7) rfl rfl F9.out info_po rfl (by simp [Value.oneCell']) ?_; intro v9 hb9 ho9; have F9 := Go.Lib.hid hb9; clear hb9; have zv9 := Nat.le_of_eq ho9.size; have zu9 := Nat.le_of_eq ho9.size.symm
                    have F10 := Go.Lib.hid (F10.out.only ho9 (by omega))
                    have HQ := Go.Lib.hid (HQ.out.only ho9 HN9.out); have HK := Go.Lib.hid (HK.out.only ho9 HN9.out)
                    have BL := Go.Lib.hid (BL.out.trans (ho9.below (by omega)))
                    refine hKc.out _ _ (⟨hHeld.1.only ho9 (by omega), BL.out⟩) (fun hHeld => ?_)
                    clear hKc Kc
                    try simp only [Act.put, List.setIfInBounds_toArray, List.set_cons_zero, List.set_cons_succ]
                    refine wpAnyH_ready (rs := [14]) (by kernel_rfl) (by simp) (AllReadyH.cons (o := ⟨none, _, _, _, _, _⟩) rfl (fun Kc hKc => ?_) AllReadyH.nil)
                    rw [if_pos (by rfl)]
                    refine step_store_whole 33 _ _ rfl g10 _ (pkL t.out Ao7 co7 Ab7 cb7) rfl rfl F10.out info_pk rfl (by simp [Value.oneCell']) ?_; intro v10 hb10 ho10; have F10 := Go.Lib.hid hb10; clear hb10; have zv10 := Nat.le_of_eq ho10.size; have zu10 := Nat.le_of_eq ho10.size.symm
                    have F9 := Go.Lib.hid (F9.out.only ho10 (by omega))
                    have HQ := Go.Lib.hid (HQ.out.only ho10 HN10.out); have HK := Go.Lib.hid (HK.out.only ho10 HN10.out)
                    have BL := Go.Lib.hid (BL.out.trans (ho10.below (by omega)))
                    refine hKc.out _ _ (⟨hHeld.1.only ho10 (by omega), BL.out⟩) (fun hHeld => ?_)
                    clear hKc Kc
                    try simp only [Act.put, List.setIfInBounds_toArray, List.set_cons_zero, List.set_cons_succ]
                    refine wpAnyH_take (i := 15) (oi := ⟨some 16, _, _, _, _, _⟩) (v := ?_) rfl (by kernel_rfl) (by kernel_rfl) (by kernel_rfl) (fun _ _ _ h => h) (Or.inl ⟨by rfl, ?_⟩) (by assumption) ?_
                    rotate_left
                    · intro w hSw; (try dsimp only at hSw); go_simp; (try with_reducible rfl)
                    try simp only [Act.put, List.setIfInBounds_toArray, List.set_cons_zero, List.set_cons_succ]
                    refine wpAnyH_take (i := 16) (oi := ⟨some 17, _, _, _, _, _⟩) (v := ?_) rfl (by kernel_rfl) (by kernel_rfl) (by kernel_rfl) (fun _ _ _ h => h) (Or.inl ⟨by rfl, ?_⟩) (by assumption) ?_
                    rotate_left
                    · intro w hSw; (try dsimp only at hSw); go_simp; (try with_reducible rfl)
                    try simp only [Act.put, List.setIfInBounds_toArray, List.set_cons_zero, List.set_cons_succ]
                    refine wpAnyH_done (by kernel_rfl) ?_ _
                    go_wp2_with fail
                    go_meet
                    exact ⟨g9, g10, A7, c7, Ao7, co7, Ab7, cb7, _, rfl, rfl, rfl, rfl, ⟨BL.out, F9.out, F10.out, HQ.out, HK.out, by omega, by omega, by omega, HN9.out, HN10.out, fun b hb => hb.elim .inl (fun k => .inr (by omega))⟩⟩
                  ·
                    rw [if_pos (by rfl)]
                    refine step_alloc 33 rfl (pkL pk0 none 0 none 0) info_zpk ?_; intro g10 w10 e10 hb10 y10 z10
                    have HQ := Go.Lib.hid (HQ.out.at y10)
                    have HK := Go.Lib.hid (HK.out.at y10)
                    have BL := Go.Lib.hid (BL.out.trans (y10.mono (by omega)))
                    have F10 := Go.Lib.hid hb10; clear hb10
                    refine hKc.out _ _ (⟨hHeld.1.keep y10 hHeld.1.lt, BL.out⟩) (fun hHeld => ?_)
                    clear hKc Kc
                    try simp only [Act.put, List.setIfInBounds_toArray, List.set_cons_zero, List.set_cons_succ]
                    refine wpAnyH_ready (rs := [11]) (by kernel_rfl) (by simp) (AllReadyH.cons (o := ⟨some 14, _, _, _, _, _⟩) rfl (fun Kc hKc => ?_) AllReadyH.nil)
                    rw [if_pos (by rfl)]
                    refine step_alloc 27 rfl (poL po0 none 0) info_zpo ?_; intro g9 w9 e9 hb9 y9 z9
                    have HQ := Go.Lib.hid (HQ.out.at y9)
                    have HK := Go.Lib.hid (HK.out.at y9)
                    have F10 := Go.Lib.hid (F10.out.keep y9 F10.out.lt)
                    have BL := Go.Lib.hid (BL.out.trans (y9.mono (by omega)))
                    have F9 := Go.Lib.hid hb9; clear hb9
                    refine hKc.out _ _ (⟨hHeld.1.keep y9 hHeld.1.lt, BL.out⟩) (fun hHeld => ?_)
                    clear hKc Kc
                    try simp only [Act.put, List.setIfInBounds_toArray, List.set_cons_zero, List.set_cons_succ]
                    refine wpAnyH_ready (rs := [13]) (by kernel_rfl) (by simp) (AllReadyH.cons (o := ⟨none, _, _, _, _, _⟩) rfl (fun Kc hKc => ?_) AllReadyH.nil)
                    have HN9 : Hid (¬ growV U wr.drew w7 g9) := Go.Lib.hid (fun h => h.elim (fun k => by have := HUlt.out _ k; omega) (fun k => by omega))
                    have HN10 : Hid (¬ growV U wr.drew w7 g10) := Go.Lib.hid (fun h => h.elim (fun k => by have := HUlt.out _ k; omega) (fun k => by omega))
                    rw [if_pos (by rfl)]
                    refine step_store_whole 27 _ _ rfl g9 _ (poL t.pool A7 c7) rfl rfl F9.out info_po rfl (by simp [Value.oneCell']) ?_; intro v9 hb9 ho9; have F9 := Go.Lib.hid hb9; clear hb9; have zv9 := Nat.le_of_eq ho9.size; have zu9 := Nat.le_of_eq ho9.size.symm
                    have F10 := Go.Lib.hid (F10.out.only ho9 (by omega))
                    have HQ := Go.Lib.hid (HQ.out.only ho9 HN9.out); have HK := Go.Lib.hid (HK.out.only ho9 HN9.out)
                    have BL := Go.Lib.hid (BL.out.trans (ho9.below (by omega)))
                    refine hKc.out _ _ (⟨hHeld.1.only ho9 (by omega), BL.out⟩) (fun hHeld => ?_)
                    clear hKc Kc
                    try simp only [Act.put, List.setIfInBounds_toArray, List.set_cons_zero, List.set_cons_succ]
                    refine wpAnyH_ready (rs := [14]) (by kernel_rfl) (by simp) (AllReadyH.cons (o := ⟨none, _, _, _, _, _⟩) rfl (fun Kc hKc => ?_) AllReadyH.nil)
                    rw [if_pos (by rfl)]
                    refine step_store_whole 33 _ _ rfl g10 _ (pkL t.out Ao7 co7 Ab7 cb7) rfl rfl F10.out info_pk rfl (by simp [Value.oneCell']) ?_; intro v10 hb10 ho10; have F10 := Go.Lib.hid hb10; clear hb10; have zv10 := Nat.le_of_eq ho10.size; have zu10 := Nat.le_of_eq ho10.size.symm
                    have F9 := Go.Lib.hid (F9.out.only ho10 (by omega))
                    have HQ := Go.Lib.hid (HQ.out.only ho10 HN10.out); have HK := Go.Lib.hid (HK.out.only ho10 HN10.out)
                    have BL := Go.Lib.hid (BL.out.trans (ho10.below (by omega)))
                    refine hKc.out _ _ (⟨hHeld.1.only ho10 (by omega), BL.out⟩) (fun hHeld => ?_)
                    clear hKc Kc
                    try simp only [Act.put, List.setIfInBounds_toArray, List.set_cons_zero, List.set_cons_succ]
                    refine wpAnyH_take (i := 15) (oi := ⟨some 16, _, _, _, _, _⟩) (v := ?_) rfl (by kernel_rfl) (by kernel_rfl) (by kernel_rfl) (fun _ _ _ h => h) (Or.inl ⟨by rfl, ?_⟩) (by assumption) ?_
                    rotate_left
                    · intro w hSw; (try dsimp only at hSw); go_simp; (try with_reducible rfl)
                    try simp only [Act.put, List.setIfInBounds_toArray, List.set_cons_zero, List.set_cons_succ]
                    refine wpAnyH_take (i := 16) (oi := ⟨some 17, _, _, _, _, _⟩) (v := ?_) rfl (by kernel_rfl) (by kernel_rfl) (by kernel_rfl) (fun _ _ _ h => h) (Or.inl ⟨by rfl, ?_⟩) (by assumption) ?_
                    rotate_left
                    · intro w hSw; (try dsimp only at hSw); go_simp; (try with_reducible rfl)
                    try simp only [Act.put, List.setIfInBounds_toArray, List.set_cons_zero, List.set_cons_succ]
                    refine wpAnyH_done (by kernel_rfl) ?_ _
                    go_wp2_with fail
                    go_meet
                    exact ⟨g9, g10, A7, c7, Ao7, co7, Ab7, cb7, _, rfl, rfl, rfl, rfl, ⟨BL.out, F9.out, F10.out, HQ.out, HK.out, by omega, by omega, by omega, HN9.out, HN10.out, fun b hb => hb.elim .inl (fun k => .inr (by omega))⟩⟩
                ·
                  rw [if_pos (by rfl)]
                  refine step_alloc 27 rfl (poL po0 none 0) info_zpo ?_; intro g9 w9 e9 hb9 y9 z9
                  have HP := Go.Lib.hid (HP.out.at y9)
                  have HX := Go.Lib.hid (HX.out.at y9)
                  have BL := Go.Lib.hid (BL.out.trans (y9.mono (by omega)))
                  have F9 := Go.Lib.hid hb9; clear hb9
                  refine hKc.out _ _ (⟨hHeld.1.keep y9 hHeld.1.lt, BL.out⟩) (fun hHeld => ?_)
                  clear hKc Kc
                  try simp only [Act.put, List.setIfInBounds_toArray, List.set_cons_zero, List.set_cons_succ]
                  refine wpAnyH_ready (rs := [5, 12]) (by kernel_rfl) (by simp) (AllReadyH.cons (o := ⟨some 71, _, _, _, _, _⟩) rfl (fun Kc hKc => ?_) (AllReadyH.cons (o := ⟨some 15, _, _, _, _, _⟩) rfl (fun Kc hKc => ?_) AllReadyH.nil))
                  ·
                    go_simp
                    go_at_call 8; refine (ctake p Aq cq x Ao co Ab cb _ _ t HTK.out HP.out HX.out HRT.out xo xb).mono ?_; rintro e7 w7 ⟨A7, c7, Ao7, co7, Ab7, cb7, rfl, hq, hk, y7⟩; have HQ := Go.Lib.hid hq; have HK := Go.Lib.hid hk; clear hq hk; have z7 := y7.size; dsimp only
                    have F9 := Go.Lib.hid (F9.out.keep y7 F9.out.lt)
                    have BL := Go.Lib.hid (BL.out.trans (y7.mono (by omega)))
                    refine hKc.out _ _ (⟨hHeld.1.keep y7 hHeld.1.lt, BL.out⟩) (fun hHeld => ?_)
                    clear hKc Kc
                    try simp only [Act.put, List.setIfInBounds_toArray, List.set_cons_zero, List.set_cons_succ]
                    refine wpAnyH_take (i := 6) (oi := ⟨some 65, _, _, _, _, _⟩) (v := ?_) rfl (by kernel_rfl) (by kernel_rfl) (by kernel_rfl) (fun _ _ _ h => h) (Or.inl ⟨by rfl, ?_⟩) (by assumption) ?_
                    rotate_left
                    · intro w hSw; (try dsimp only at hSw); go_simp; (try with_reducible rfl)
                    try simp only [Act.put, List.setIfInBounds_toArray, List.set_cons_zero, List.set_cons_succ]
                    refine wpAnyH_take (i := 7) (oi := ⟨some 72, _, _, _, _, _⟩) (v := ?_) rfl (by kernel_rfl) (by kernel_rfl) (by kernel_rfl) (fun _ _ _ h => h) (Or.inl ⟨by rfl, ?_⟩) (by assumption) ?_
                    rotate_left
                    · intro w hSw; (try dsimp only at hSw); go_simp; (try with_reducible rfl)
                    try simp only [Act.put, List.setIfInBounds_toArray, List.set_cons_zero, List.set_cons_succ]
                    refine wpAnyH_take (i := 8) (oi := ⟨some 73, _, _, _, _, _⟩) (v := ?_) rfl (by kernel_rfl) (by kernel_rfl) (by kernel_rfl) (fun _ _ _ h => h) (Or.inl ⟨by rfl, ?_⟩) (by assumption) ?_
                    rotate_left
                    · intro w hSw; (try dsimp only at hSw); go_simp; (try with_reducible rfl)
                    try simp only [Act.put, List.setIfInBounds_toArray, List.set_cons_zero, List.set_cons_succ]
                    refine wpAnyH_take (i := 9) (oi := ⟨some 74, _, _, _, _, _⟩) (v := ?_) rfl (by kernel_rfl) (by kernel_rfl) (by kernel_rfl) (fun _ _ _ h => h) (Or.inl ⟨by rfl, ?_⟩) (by assumption) ?_
                    rotate_left
                    · intro w hSw; (try dsimp only at hSw); go_simp; (try with_reducible rfl)
                    try simp only [Act.put, List.setIfInBounds_toArray, List.set_cons_zero, List.set_cons_succ]
                    refine wpAnyH_take (i := 10) (oi := ⟨some 75, _, _, _, _, _⟩) (v := ?_) rfl (by kernel_rfl) (by kernel_rfl) (by kernel_rfl) (fun _ _ _ h => h) (Or.inl ⟨by rfl, ?_⟩) (by assumption) ?_
                    rotate_left
                    · intro w hSw; (try dsimp only at hSw); go_simp; (try with_reducible rfl)
                    try simp only [Act.put, List.setIfInBounds_toArray, List.set_cons_zero, List.set_cons_succ]
                    refine wpAnyH_ready (rs := [12]) (by kernel_rfl) (by simp) (AllReadyH.cons (o := ⟨some 15, _, _, _, _, _⟩) rfl (fun Kc hKc => ?_) AllReadyH.nil)
                    rw [if_pos (by rfl)]
                    refine step_alloc 33 rfl (pkL pk0 none 0 none 0) info_zpk ?_; intro g10 w10 e10 hb10 y10 z10
                    have F9 := Go.Lib.hid (F9.out.keep y10 F9.out.lt)
                    have HQ := Go.Lib.hid (HQ.out.at y10)
                    have HK := Go.Lib.hid (HK.out.at y10)
                    have BL := Go.Lib.hid (BL.out.trans (y10.mono (by omega)))
                    have F10 := Go.Lib.hid hb10; clear hb10
                    refine hKc.out _ _ (⟨hHeld.1.keep y10 hHeld.1.lt, BL.out⟩) (fun hHeld => ?_)
                    clear hKc Kc
                    try simp only [Act.put, List.setIfInBounds_toArray, List.set_cons_zero, List.set_cons_succ]
                    refine wpAnyH_ready (rs := [13]) (by kernel_rfl) (by simp) (AllReadyH.cons (o := ⟨none, _, _, _, _, _⟩) rfl (fun Kc hKc => ?_) AllReadyH.nil)
                    have HN9 : Hid (¬ growV U w9 w7 g9) := Go.Lib.hid (fun h => h.elim (fun k => by have := HUlt.out _ k; omega) (fun k => by omega))
                    have HN10 : Hid (¬ growV U w9 w7 g10) := Go.Lib.hid (fun h => h.elim (fun k => by have := HUlt.out _ k; omega) (fun k => by omega))
                    rw [if_pos (by rfl)]
                    refine step_store_whole 27 _ _ rfl g9 _ (poL t.pool A7 c7) rfl rfl F9.out info_po rfl (by simp [Value.oneCell']) ?_; intro v9 hb9 ho9; have F9 := Go.Lib.hid hb9; clear hb9; have zv9 := Nat.le_of_eq ho9.size; have zu9 := Nat.le_of_eq ho9.size.symm
                    have F10 := Go.Lib.hid (F10.out.only ho9 (by omega))
                    have HQ := Go.Lib.hid (HQ.out.only ho9 HN9.out); have HK := Go.Lib.hid (HK.out.only ho9 HN9.out)
                    have BL := Go.Lib.hid (BL.out.trans (ho9.below (by omega)))
                    refine hKc.out _ _ (⟨hHeld.1.only ho9 (by omega), BL.out⟩) (fun hHeld => ?_)
                    clear hKc Kc
                    try simp only [Act.put, List.setIfInBounds_toArray, List.set_cons_zero, List.set_cons_succ]
                    refine wpAnyH_ready (rs := [14]) (by kernel_rfl) (by simp) (AllReadyH.cons (o := ⟨none, _, _, _, _, _⟩) rfl (fun Kc hKc => ?_) AllReadyH.nil)
                    rw [if_pos (by rfl)]
                    refine step_store_whole 33 _ _ rfl g10 _ (pkL t.out Ao7 co7 Ab7 cb7) rfl rfl F10.out info_pk rfl (by simp [Value.oneCell']) ?_; intro v10 hb10 ho10; have F10 := Go.Lib.hid hb10; clear hb10; have zv10 := Nat.le_of_eq ho10.size; have zu10 := Nat.le_of_eq ho10.size.symm
                    have F9 := Go.Lib.hid (F9.out.only ho10 (by omega))
                    have HQ := Go.Lib.hid (HQ.out.only ho10 HN10.out); have HK := Go.Lib.hid (HK.out.only ho10 HN10.out)
                    have BL := Go.Lib.hid (BL.out.trans (ho10.below (by omega)))
                    refine hKc.out _ _ (⟨hHeld.1.only ho10 (by omega), BL.out⟩) (fun hHeld => ?_)
                    clear hKc Kc
                    try simp only [Act.put, List.setIfInBounds_toArray, List.set_cons_zero, List.set_cons_succ]
                    refine wpAnyH_take (i := 15) (oi := ⟨some 16, _, _, _, _, _⟩) (v := ?_) rfl (by kernel_rfl) (by kernel_rfl) (by kernel_rfl) (fun _ _ _ h => h) (Or.inl ⟨by rfl, ?_⟩) (by assumption) ?_
                    rotate_left
                    · intro w hSw; (try dsimp only at hSw); go_simp; (try with_reducible rfl)
                    try simp only [Act.put, List.setIfInBounds_toArray, List.set_cons_zero, List.set_cons_succ]
                    refine wpAnyH_take (i := 16) (oi := ⟨some 17, _, _, _, _, _⟩) (v := ?_) rfl (by kernel_rfl) (by kernel_rfl) (by kernel_rfl) (fun _ _ _ h => h) (Or.inl ⟨by rfl, ?_⟩) (by assumption) ?_
                    rotate_left
                    · intro w hSw; (try dsimp only at hSw); go_simp; (try with_reducible rfl)
                    try simp only [Act.put, List.setIfInBounds_toArray, List.set_cons_zero, List.set_cons_succ]
                    refine wpAnyH_done (by kernel_rfl) ?_ _
                    go_wp2_with fail
                    go_meet
                    exact ⟨g9, g10, A7, c7, Ao7, co7, Ab7, cb7, _, rfl, rfl, rfl, rfl, ⟨BL.out, F9.out, F10.out, HQ.out, HK.out, by omega, by omega, by omega, HN9.out, HN10.out, fun b hb => hb.elim .inl (fun k => .inr (by omega))⟩⟩
                  ·
                    rw [if_pos (by rfl)]
                    refine step_alloc 33 rfl (pkL pk0 none 0 none 0) info_zpk ?_; intro g10 w10 e10 hb10 y10 z10
                    have HP := Go.Lib.hid (HP.out.at y10)
                    have HX := Go.Lib.hid (HX.out.at y10)
                    have F9 := Go.Lib.hid (F9.out.keep y10 F9.out.lt)
                    have BL := Go.Lib.hid (BL.out.trans (y10.mono (by omega)))
                    have F10 := Go.Lib.hid hb10; clear hb10
                    refine hKc.out _ _ (⟨hHeld.1.keep y10 hHeld.1.lt, BL.out⟩) (fun hHeld => ?_)
                    clear hKc Kc
                    try simp only [Act.put, List.setIfInBounds_toArray, List.set_cons_zero, List.set_cons_succ]
                    refine wpAnyH_ready (rs := [5]) (by kernel_rfl) (by simp) (AllReadyH.cons (o := ⟨some 71, _, _, _, _, _⟩) rfl (fun Kc hKc => ?_) AllReadyH.nil)
                    go_simp
                    go_at_call 8; refine (ctake p Aq cq x Ao co Ab cb _ _ t HTK.out HP.out HX.out HRT.out xo xb).mono ?_; rintro e7 w7 ⟨A7, c7, Ao7, co7, Ab7, cb7, rfl, hq, hk, y7⟩; have HQ := Go.Lib.hid hq; have HK := Go.Lib.hid hk; clear hq hk; have z7 := y7.size; dsimp only
                    have F9 := Go.Lib.hid (F9.out.keep y7 F9.out.lt)
                    have F10 := Go.Lib.hid (F10.out.keep y7 F10.out.lt)
                    have BL := Go.Lib.hid (BL.out.trans (y7.mono (by omega)))
                    refine hKc.out _ _ (⟨hHeld.1.keep y7 hHeld.1.lt, BL.out⟩) (fun hHeld => ?_)
                    clear hKc Kc
                    try simp only [Act.put, List.setIfInBounds_toArray, List.set_cons_zero, List.set_cons_succ]
                    refine wpAnyH_take (i := 6) (oi := ⟨some 65, _, _, _, _, _⟩) (v := ?_) rfl (by kernel_rfl) (by kernel_rfl) (by kernel_rfl) (fun _ _ _ h => h) (Or.inl ⟨by rfl, ?_⟩) (by assumption) ?_
                    rotate_left
                    · intro w hSw; (try dsimp only at hSw); go_simp; (try with_reducible rfl)
                    try simp only [Act.put, List.setIfInBounds_toArray, List.set_cons_zero, List.set_cons_succ]
                    refine wpAnyH_take (i := 7) (oi := ⟨some 72, _, _, _, _, _⟩) (v := ?_) rfl (by kernel_rfl) (by kernel_rfl) (by kernel_rfl) (fun _ _ _ h => h) (Or.inl ⟨by rfl, ?_⟩) (by assumption) ?_
                    rotate_left
                    · intro w hSw; (try dsimp only at hSw); go_simp; (try with_reducible rfl)
                    try simp only [Act.put, List.setIfInBounds_toArray, List.set_cons_zero, List.set_cons_succ]
                    refine wpAnyH_take (i := 8) (oi := ⟨some 73, _, _, _, _, _⟩) (v := ?_) rfl (by kernel_rfl) (by kernel_rfl) (by kernel_rfl) (fun _ _ _ h => h) (Or.inl ⟨by rfl, ?_⟩) (by assumption) ?_
                    rotate_left
                    · intro w hSw; (try dsimp only at hSw); go_simp; (try with_reducible rfl)
                    try simp only [Act.put, List.setIfInBounds_toArray, List.set_cons_zero, List.set_cons_succ]
                    refine wpAnyH_take (i := 9) (oi := ⟨some 74, _, _, _, _, _⟩) (v := ?_) rfl (by kernel_rfl) (by kernel_rfl) (by kernel_rfl) (fun _ _ _ h => h) (Or.inl ⟨by rfl, ?_⟩) (by assumption) ?_
                    rotate_left
                    · intro w hSw; (try dsimp only at hSw); go_simp; (try with_reducible rfl)
                    try simp only [Act.put, List.setIfInBounds_toArray, List.set_cons_zero, List.set_cons_succ]
                    refine wpAnyH_take (i := 10) (oi := ⟨some 75, _, _, _, _, _⟩) (v := ?_) rfl (by kernel_rfl) (by kernel_rfl) (by kernel_rfl) (fun _ _ _ h => h) (Or.inl ⟨by rfl, ?_⟩) (by assumption) ?_
                    rotate_left
                    · intro w hSw; (try dsimp only at hSw); go_simp; (try with_reducible rfl)
                    try simp only [Act.put, List.setIfInBounds_toArray, List.set_cons_zero, List.set_cons_succ]
                    refine wpAnyH_ready (rs := [13]) (by kernel_rfl) (by simp) (AllReadyH.cons (o := ⟨none, _, _, _, _, _⟩) rfl (fun Kc hKc => ?_) AllReadyH.nil)
                    have HN9 : Hid (¬ growV U w10 w7 g9) := Go.Lib.hid (fun h => h.elim (fun k => by have := HUlt.out _ k; omega) (fun k => by omega))
                    have HN10 : Hid (¬ growV U w10 w7 g10) := Go.Lib.hid (fun h => h.elim (fun k => by have := HUlt.out _ k; omega) (fun k => by omega))
                    rw [if_pos (by rfl)]
                    refine step_store_whole 27 _ _ rfl g9 _ (poL t.pool A7 c7) rfl rfl F9.out info_po rfl (by simp [Value.oneCell']) ?_; intro v9 hb9 ho9; have F9 := Go.Lib.hid hb9; clear hb9; have zv9 := Nat.le_of_eq ho9.size; have zu9 := Nat.le_of_eq ho9.size.symm
                    have F10 := Go.Lib.hid (F10.out.only ho9 (by omega))
                    have HQ := Go.Lib.hid (HQ.out.only ho9 HN9.out); have HK := Go.Lib.hid (HK.out.only ho9 HN9.out)
                    have BL := Go.Lib.hid (BL.out.trans (ho9.below (by omega)))
                    refine hKc.out _ _ (⟨hHeld.1.only ho9 (by omega), BL.out⟩) (fun hHeld => ?_)
                    clear hKc Kc
                    try simp only [Act.put, List.setIfInBounds_toArray, List.set_cons_zero, List.set_cons_succ]
                    refine wpAnyH_ready (rs := [14]) (by kernel_rfl) (by simp) (AllReadyH.cons (o := ⟨none, _, _, _, _, _⟩) rfl (fun Kc hKc => ?_) AllReadyH.nil)
                    rw [if_pos (by rfl)]
                    refine step_store_whole 33 _ _ rfl g10 _ (pkL t.out Ao7 co7 Ab7 cb7) rfl rfl F10.out info_pk rfl (by simp [Value.oneCell']) ?_; intro v10 hb10 ho10; have F10 := Go.Lib.hid hb10; clear hb10; have zv10 := Nat.le_of_eq ho10.size; have zu10 := Nat.le_of_eq ho10.size.symm
                    have F9 := Go.Lib.hid (F9.out.only ho10 (by omega))
                    have HQ := Go.Lib.hid (HQ.out.only ho10 HN10.out); have HK := Go.Lib.hid (HK.out.only ho10 HN10.out)
                    have BL := Go.Lib.hid (BL.out.trans (ho10.below (by omega)))
                    refine hKc.out _ _ (⟨hHeld.1.only ho10 (by omega), BL.out⟩) (fun hHeld => ?_)
                    clear hKc Kc
                    try simp only [Act.put, List.setIfInBounds_toArray, List.set_cons_zero, List.set_cons_succ]
                    refine wpAnyH_take (i := 15) (oi := ⟨some 16, _, _, _, _, _⟩) (v := ?_) rfl (by kernel_rfl) (by kernel_rfl) (by kernel_rfl) (fun _ _ _ h => h) (Or.inl ⟨by rfl, ?_⟩) (by assumption) ?_
                    rotate_left
                    · intro w hSw; (try dsimp only at hSw); go_simp; (try with_reducible rfl)
                    try simp only [Act.put, List.setIfInBounds_toArray, List.set_cons_zero, List.set_cons_succ]
                    refine wpAnyH_take (i := 16) (oi := ⟨some 17, _, _, _, _, _⟩) (v := ?_) rfl (by kernel_rfl) (by kernel_rfl) (by kernel_rfl) (fun _ _ _ h => h) (Or.inl ⟨by rfl, ?_⟩) (by assumption) ?_
                    rotate_left
                    · intro w hSw; (try dsimp only at hSw); go_simp; (try with_reducible rfl)
                    try simp only [Act.put, List.setIfInBounds_toArray, List.set_cons_zero, List.set_cons_succ]
                    refine wpAnyH_done (by kernel_rfl) ?_ _
                    go_wp2_with fail
                    go_meet
                    exact ⟨g9, g10, A7, c7, Ao7, co7, Ab7, cb7, _, rfl, rfl, rfl, rfl, ⟨BL.out, F9.out, F10.out, HQ.out, HK.out, by omega, by omega, by omega, HN9.out, HN10.out, fun b hb => hb.elim .inl (fun k => .inr (by omega))⟩⟩
                ·
                  rw [if_pos (by rfl)]
                  refine step_alloc 33 rfl (pkL pk0 none 0 none 0) info_zpk ?_; intro g10 w10 e10 hb10 y10 z10
                  have HP := Go.Lib.hid (HP.out.at y10)
                  have HX := Go.Lib.hid (HX.out.at y10)
                  have BL := Go.Lib.hid (BL.out.trans (y10.mono (by omega)))
                  have F10 := Go.Lib.hid hb10; clear hb10
                  refine hKc.out _ _ (⟨hHeld.1.keep y10 hHeld.1.lt, BL.out⟩) (fun hHeld => ?_)
                  clear hKc Kc
                  try simp only [Act.put, List.setIfInBounds_toArray, List.set_cons_zero, List.set_cons_succ]
                  refine wpAnyH_ready (rs := [5, 11]) (by kernel_rfl) (by simp) (AllReadyH.cons (o := ⟨some 71, _, _, _, _, _⟩) rfl (fun Kc hKc => ?_) (AllReadyH.cons (o := ⟨some 14, _, _, _, _, _⟩) rfl (fun Kc hKc => ?_) AllReadyH.nil))
                  ·
                    go_simp
                    go_at_call 8; refine (ctake p Aq cq x Ao co Ab cb _ _ t HTK.out HP.out HX.out HRT.out xo xb).mono ?_; rintro e7 w7 ⟨A7, c7, Ao7, co7, Ab7, cb7, rfl, hq, hk, y7⟩; have HQ := Go.Lib.hid hq; have HK := Go.Lib.hid hk; clear hq hk; have z7 := y7.size; dsimp only
                    have F10 := Go.Lib.hid (F10.out.keep y7 F10.out.lt)
                    have BL := Go.Lib.hid (BL.out.trans (y7.mono (by omega)))
                    refine hKc.out _ _ (⟨hHeld.1.keep y7 hHeld.1.lt, BL.out⟩) (fun hHeld => ?_)
                    clear hKc Kc
                    try simp only [Act.put, List.setIfInBounds_toArray, List.set_cons_zero, List.set_cons_succ]
                    refine wpAnyH_take (i := 6) (oi := ⟨some 65, _, _, _, _, _⟩) (v := ?_) rfl (by kernel_rfl) (by kernel_rfl) (by kernel_rfl) (fun _ _ _ h => h) (Or.inl ⟨by rfl, ?_⟩) (by assumption) ?_
                    rotate_left
                    · intro w hSw; (try dsimp only at hSw); go_simp; (try with_reducible rfl)
                    try simp only [Act.put, List.setIfInBounds_toArray, List.set_cons_zero, List.set_cons_succ]
                    refine wpAnyH_take (i := 7) (oi := ⟨some 72, _, _, _, _, _⟩) (v := ?_) rfl (by kernel_rfl) (by kernel_rfl) (by kernel_rfl) (fun _ _ _ h => h) (Or.inl ⟨by rfl, ?_⟩) (by assumption) ?_
                    rotate_left
                    · intro w hSw; (try dsimp only at hSw); go_simp; (try with_reducible rfl)
                    try simp only [Act.put, List.setIfInBounds_toArray, List.set_cons_zero, List.set_cons_succ]
                    refine wpAnyH_take (i := 8) (oi := ⟨some 73, _, _, _, _, _⟩) (v := ?_) rfl (by kernel_rfl) (by kernel_rfl) (by kernel_rfl) (fun _ _ _ h => h) (Or.inl ⟨by rfl, ?_⟩) (by assumption) ?_
                    rotate_left
                    · intro w hSw; (try dsimp only at hSw); go_simp; (try with_reducible rfl)
                    try simp only [Act.put, List.setIfInBounds_toArray, List.set_cons_zero, List.set_cons_succ]
                    refine wpAnyH_take (i := 9) (oi := ⟨some 74, _, _, _, _, _⟩) (v := ?_) rfl (by kernel_rfl) (by kernel_rfl) (by kernel_rfl) (fun _ _ _ h => h) (Or.inl ⟨by rfl, ?_⟩) (by assumption) ?_
                    rotate_left
                    · intro w hSw; (try dsimp only at hSw); go_simp; (try with_reducible rfl)
                    try simp only [Act.put, List.setIfInBounds_toArray, List.set_cons_zero, List.set_cons_succ]
                    refine wpAnyH_take (i := 10) (oi := ⟨some 75, _, _, _, _, _⟩) (v := ?_) rfl (by kernel_rfl) (by kernel_rfl) (by kernel_rfl) (fun _ _ _ h => h) (Or.inl ⟨by rfl, ?_⟩) (by assumption) ?_
                    rotate_left
                    · intro w hSw; (try dsimp only at hSw); go_simp; (try with_reducible rfl)
                    try simp only [Act.put, List.setIfInBounds_toArray, List.set_cons_zero, List.set_cons_succ]
                    refine wpAnyH_ready (rs := [11]) (by kernel_rfl) (by simp) (AllReadyH.cons (o := ⟨some 14, _, _, _, _, _⟩) rfl (fun Kc hKc => ?_) AllReadyH.nil)
                    rw [if_pos (by rfl)]
                    refine step_alloc 27 rfl (poL po0 none 0) info_zpo ?_; intro g9 w9 e9 hb9 y9 z9
                    have F10 := Go.Lib.hid (F10.out.keep y9 F10.out.lt)
                    have HQ := Go.Lib.hid (HQ.out.at y9)
                    have HK := Go.Lib.hid (HK.out.at y9)
                    have BL := Go.Lib.hid (BL.out.trans (y9.mono (by omega)))
                    have F9 := Go.Lib.hid hb9; clear hb9
                    refine hKc.out _ _ (⟨hHeld.1.keep y9 hHeld.1.lt, BL.out⟩) (fun hHeld => ?_)
                    clear hKc Kc
                    try simp only [Act.put, List.setIfInBounds_toArray, List.set_cons_zero, List.set_cons_succ]
                    refine wpAnyH_ready (rs := [13]) (by kernel_rfl) (by simp) (AllReadyH.cons (o := ⟨none, _, _, _, _, _⟩) rfl (fun Kc hKc => ?_) AllReadyH.nil)
                    have HN9 : Hid (¬ growV U w10 w7 g9) := Go.Lib.hid (fun h => h.elim (fun k => by have := HUlt.out _ k; omega) (fun k => by omega))
                    have HN10 : Hid (¬ growV U w10 w7 g10) := Go.Lib.hid (fun h => h.elim (fun k => by have := HUlt.out _ k; omega) (fun k => by omega))
                    rw [if_pos (by rfl)]
                    refine step_store_whole 27 _ _ rfl g9 _ (poL t.pool A7 c7) rfl rfl F9.out info_po rfl (by simp [Value.oneCell']) ?_; intro v9 hb9 ho9; have F9 := Go.Lib.hid hb9; clear hb9; have zv9 := Nat.le_of_eq ho9.size; have zu9 := Nat.le_of_eq ho9.size.symm
                    have F10 := Go.Lib.hid (F10.out.only ho9 (by omega))
                    have HQ := Go.Lib.hid (HQ.out.only ho9 HN9.out); have HK := Go.Lib.hid (HK.out.only ho9 HN9.out)
                    have BL := Go.Lib.hid (BL.out.trans (ho9.below (by omega)))
                    refine hKc.out _ _ (⟨hHeld.1.only ho9 (by omega), BL.out⟩) (fun hHeld => ?_)
                    clear hKc Kc
                    try simp only [Act.put, List.setIfInBounds_toArray, List.set_cons_zero, List.set_cons_succ]
                    refine wpAnyH_ready (rs := [14]) (by kernel_rfl) (by simp) (AllReadyH.cons (o := ⟨none, _, _, _, _, _⟩) rfl (fun Kc hKc => ?_) AllReadyH.nil)
                    rw [if_pos (by rfl)]
                    refine step_store_whole 33 _ _ rfl g10 _ (pkL t.out Ao7 co7 Ab7 cb7) rfl rfl F10.out info_pk rfl (by simp [Value.oneCell']) ?_; intro v10 hb10 ho10; have F10 := Go.Lib.hid hb10; clear hb10; have zv10 := Nat.le_of_eq ho10.size; have zu10 := Nat.le_of_eq ho10.size.symm
                    have F9 := Go.Lib.hid (F9.out.only ho10 (by omega))
                    have HQ := Go.Lib.hid (HQ.out.only ho10 HN10.out); have HK := Go.Lib.hid (HK.out.only ho10 HN10.out)
                    have BL := Go.Lib.hid (BL.out.trans (ho10.below (by omega)))
                    refine hKc.out _ _ (⟨hHeld.1.only ho10 (by omega), BL.out⟩) (fun hHeld => ?_)
                    clear hKc Kc
                    try simp only [Act.put, List.setIfInBounds_toArray, List.set_cons_zero, List.set_cons_succ]
                    refine wpAnyH_take (i := 15) (oi := ⟨some 16, _, _, _, _, _⟩) (v := ?_) rfl (by kernel_rfl) (by kernel_rfl) (by kernel_rfl) (fun _ _ _ h => h) (Or.inl ⟨by rfl, ?_⟩) (by assumption) ?_
                    rotate_left
                    · intro w hSw; (try dsimp only at hSw); go_simp; (try with_reducible rfl)
                    try simp only [Act.put, List.setIfInBounds_toArray, List.set_cons_zero, List.set_cons_succ]
                    refine wpAnyH_take (i := 16) (oi := ⟨some 17, _, _, _, _, _⟩) (v := ?_) rfl (by kernel_rfl) (by kernel_rfl) (by kernel_rfl) (fun _ _ _ h => h) (Or.inl ⟨by rfl, ?_⟩) (by assumption) ?_
                    rotate_left
                    · intro w hSw; (try dsimp only at hSw); go_simp; (try with_reducible rfl)
                    try simp only [Act.put, List.setIfInBounds_toArray, List.set_cons_zero, List.set_cons_succ]
                    refine wpAnyH_done (by kernel_rfl) ?_ _
                    go_wp2_with fail
                    go_meet
                    exact ⟨g9, g10, A7, c7, Ao7, co7, Ab7, cb7, _, rfl, rfl, rfl, rfl, ⟨BL.out, F9.out, F10.out, HQ.out, HK.out, by omega, by omega, by omega, HN9.out, HN10.out, fun b hb => hb.elim .inl (fun k => .inr (by omega))⟩⟩
                  ·
                    rw [if_pos (by rfl)]
                    refine step_alloc 27 rfl (poL po0 none 0) info_zpo ?_; intro g9 w9 e9 hb9 y9 z9
                    have HP := Go.Lib.hid (HP.out.at y9)
                    have HX := Go.Lib.hid (HX.out.at y9)
                    have F10 := Go.Lib.hid (F10.out.keep y9 F10.out.lt)
                    have BL := Go.Lib.hid (BL.out.trans (y9.mono (by omega)))
                    have F9 := Go.Lib.hid hb9; clear hb9
                    refine hKc.out _ _ (⟨hHeld.1.keep y9 hHeld.1.lt, BL.out⟩) (fun hHeld => ?_)
                    clear hKc Kc
                    try simp only [Act.put, List.setIfInBounds_toArray, List.set_cons_zero, List.set_cons_succ]
                    refine wpAnyH_ready (rs := [5]) (by kernel_rfl) (by simp) (AllReadyH.cons (o := ⟨some 71, _, _, _, _, _⟩) rfl (fun Kc hKc => ?_) AllReadyH.nil)
                    go_simp
                    go_at_call 8; refine (ctake p Aq cq x Ao co Ab cb _ _ t HTK.out HP.out HX.out HRT.out xo xb).mono ?_; rintro e7 w7 ⟨A7, c7, Ao7, co7, Ab7, cb7, rfl, hq, hk, y7⟩; have HQ := Go.Lib.hid hq; have HK := Go.Lib.hid hk; clear hq hk; have z7 := y7.size; dsimp only
                    have F10 := Go.Lib.hid (F10.out.keep y7 F10.out.lt)
                    have F9 := Go.Lib.hid (F9.out.keep y7 F9.out.lt)
                    have BL := Go.Lib.hid (BL.out.trans (y7.mono (by omega)))
                    refine hKc.out _ _ (⟨hHeld.1.keep y7 hHeld.1.lt, BL.out⟩) (fun hHeld => ?_)
                    clear hKc Kc
                    try simp only [Act.put, List.setIfInBounds_toArray, List.set_cons_zero, List.set_cons_succ]
                    refine wpAnyH_take (i := 6) (oi := ⟨some 65, _, _, _, _, _⟩) (v := ?_) rfl (by kernel_rfl) (by kernel_rfl) (by kernel_rfl) (fun _ _ _ h => h) (Or.inl ⟨by rfl, ?_⟩) (by assumption) ?_
                    rotate_left
                    · intro w hSw; (try dsimp only at hSw); go_simp; (try with_reducible rfl)
                    try simp only [Act.put, List.setIfInBounds_toArray, List.set_cons_zero, List.set_cons_succ]
                    refine wpAnyH_take (i := 7) (oi := ⟨some 72, _, _, _, _, _⟩) (v := ?_) rfl (by kernel_rfl) (by kernel_rfl) (by kernel_rfl) (fun _ _ _ h => h) (Or.inl ⟨by rfl, ?_⟩) (by assumption) ?_
                    rotate_left
                    · intro w hSw; (try dsimp only at hSw); go_simp; (try with_reducible rfl)
                    try simp only [Act.put, List.setIfInBounds_toArray, List.set_cons_zero, List.set_cons_succ]
                    refine wpAnyH_take (i := 8) (oi := ⟨some 73, _, _, _, _, _⟩) (v := ?_) rfl (by kernel_rfl) (by kernel_rfl) (by kernel_rfl) (fun _ _ _ h => h) (Or.inl ⟨by rfl, ?_⟩) (by assumption) ?_
                    rotate_left
                    · intro w hSw; (try dsimp only at hSw); go_simp; (try with_reducible rfl)
                    try simp only [Act.put, List.setIfInBounds_toArray, List.set_cons_zero, List.set_cons_succ]
                    refine wpAnyH_take (i := 9) (oi := ⟨some 74, _, _, _, _, _⟩) (v := ?_) rfl (by kernel_rfl) (by kernel_rfl) (by kernel_rfl) (fun _ _ _ h => h) (Or.inl ⟨by rfl, ?_⟩) (by assumption) ?_
                    rotate_left
                    · intro w hSw; (try dsimp only at hSw); go_simp; (try with_reducible rfl)
                    try simp only [Act.put, List.setIfInBounds_toArray, List.set_cons_zero, List.set_cons_succ]
                    refine wpAnyH_take (i := 10) (oi := ⟨some 75, _, _, _, _, _⟩) (v := ?_) rfl (by kernel_rfl) (by kernel_rfl) (by kernel_rfl) (fun _ _ _ h => h) (Or.inl ⟨by rfl, ?_⟩) (by assumption) ?_
                    rotate_left
                    · intro w hSw; (try dsimp only at hSw); go_simp; (try with_reducible rfl)
                    try simp only [Act.put, List.setIfInBounds_toArray, List.set_cons_zero, List.set_cons_succ]
                    refine wpAnyH_ready (rs := [13]) (by kernel_rfl) (by simp) (AllReadyH.cons (o := ⟨none, _, _, _, _, _⟩) rfl (fun Kc hKc => ?_) AllReadyH.nil)
                    have HN9 : Hid (¬ growV U w9 w7 g9) := Go.Lib.hid (fun h => h.elim (fun k => by have := HUlt.out _ k; omega) (fun k => by omega))
                    have HN10 : Hid (¬ growV U w9 w7 g10) := Go.Lib.hid (fun h => h.elim (fun k => by have := HUlt.out _ k; omega) (fun k => by omega))
                    rw [if_pos (by rfl)]
                    refine step_store_whole 27 _ _ rfl g9 _ (poL t.pool A7 c7) rfl rfl F9.out info_po rfl (by simp [Value.oneCell']) ?_; intro v9 hb9 ho9; have F9 := Go.Lib.hid hb9; clear hb9; have zv9 := Nat.le_of_eq ho9.size; have zu9 := Nat.le_of_eq ho9.size.symm
                    have F10 := Go.Lib.hid (F10.out.only ho9 (by omega))
                    have HQ := Go.Lib.hid (HQ.out.only ho9 HN9.out); have HK := Go.Lib.hid (HK.out.only ho9 HN9.out)
                    have BL := Go.Lib.hid (BL.out.trans (ho9.below (by omega)))
                    refine hKc.out _ _ (⟨hHeld.1.only ho9 (by omega), BL.out⟩) (fun hHeld => ?_)
                    clear hKc Kc
                    try simp only [Act.put, List.setIfInBounds_toArray, List.set_cons_zero, List.set_cons_succ]
                    refine wpAnyH_ready (rs := [14]) (by kernel_rfl) (by simp) (AllReadyH.cons (o := ⟨none, _, _, _, _, _⟩) rfl (fun Kc hKc => ?_) AllReadyH.nil)
                    rw [if_pos (by rfl)]
                    refine step_store_whole 33 _ _ rfl g10 _ (pkL t.out Ao7 co7 Ab7 cb7) rfl rfl F10.out info_pk rfl (by simp [Value.oneCell']) ?_; intro v10 hb10 ho10; have F10 := Go.Lib.hid hb10; clear hb10; have zv10 := Nat.le_of_eq ho10.size; have zu10 := Nat.le_of_eq ho10.size.symm
                    have F9 := Go.Lib.hid (F9.out.only ho10 (by omega))
                    have HQ := Go.Lib.hid (HQ.out.only ho10 HN10.out); have HK := Go.Lib.hid (HK.out.only ho10 HN10.out)
                    have BL := Go.Lib.hid (BL.out.trans (ho10.below (by omega)))
                    refine hKc.out _ _ (⟨hHeld.1.only ho10 (by omega), BL.out⟩) (fun hHeld => ?_)
                    clear hKc Kc
                    try simp only [Act.put, List.setIfInBounds_toArray, List.set_cons_zero, List.set_cons_succ]
                    refine wpAnyH_take (i := 15) (oi := ⟨some 16, _, _, _, _, _⟩) (v := ?_) rfl (by kernel_rfl) (by kernel_rfl) (by kernel_rfl) (fun _ _ _ h => h) (Or.inl ⟨by rfl, ?_⟩) (by assumption) ?_
                    rotate_left
                    · intro w hSw; (try dsimp only at hSw); go_simp; (try with_reducible rfl)
                    try simp only [Act.put, List.setIfInBounds_toArray, List.set_cons_zero, List.set_cons_succ]
                    refine wpAnyH_take (i := 16) (oi := ⟨some 17, _, _, _, _, _⟩) (v := ?_) rfl (by kernel_rfl) (by kernel_rfl) (by kernel_rfl) (fun _ _ _ h => h) (Or.inl ⟨by rfl, ?_⟩) (by assumption) ?_
                    rotate_left
                    · intro w hSw; (try dsimp only at hSw); go_simp; (try with_reducible rfl)
                    try simp only [Act.put, List.setIfInBounds_toArray, List.set_cons_zero, List.set_cons_succ]
                    refine wpAnyH_done (by kernel_rfl) ?_ _
                    go_wp2_with fail
                    go_meet
                    exact ⟨g9, g10, A7, c7, Ao7, co7, Ab7, cb7, _, rfl, rfl, rfl, rfl, ⟨BL.out, F9.out, F10.out, HQ.out, HK.out, by omega, by omega, by omega, HN9.out, HN10.out, fun b hb => hb.elim .inl (fun k => .inr (by omega))⟩⟩
              case rest =>
                obtain ⟨g9, g10, A1, c1, Ao1, co1, Ab1, cb1, U1, rfl, rfl, rfl, rfl, hT⟩ := hcut
                clear HXC HX HP HTK xo xb
                have HT := Go.Lib.hid hT
                have HBc := Go.Lib.hid (HB.out.keep hT.bel hbl)
                have HN1 : Hid (¬ U1 bp) := Go.Lib.hid (fun h => (hT.up bp h).elim HUN.out (fun h => by omega))
                have l9 := hT.l9
                have d10 : wc.cell? ⟨g10, 10, none⟩ = some (.slice Ab1 t.out.body.length cb1) := hT.b10.cell 10 rfl
                clear hT HUlt HUN HB
                go_upto_region 16 with fail
                go_cut [12, 16, 90] (fun n s b wx => n = .int .i64 now ∧ s = .bool t.ok ∧ b = .bool false ∧ wx = wc)
                case first =>
                  cases hok : t.ok
                  · have hz : ((t.out.body.length : Int) != 0) = false := by rw [HST.out.2.1 hok]; rfl
                    go_wp2_with fail
                    go_meet
                    exact ⟨rfl, by rw [hok], rfl, rfl⟩
                  · have hz : (t.err != 0) = false := by rw [HST.out.2.2 hok]; rfl
                    go_wp2_with fail
                    go_meet
                    exact ⟨rfl, by rw [hok], rfl, rfl⟩
                case rest =>
                  obtain ⟨rfl, rfl, rfl, rfl⟩ := hcut
                  clear d10
                  go_upto_region 19 with (first
                    | (refine wpList_load_box rfl 27 _ rfl g9 rfl (poL t.pool A1 c1) _ HT.out.b9 Try.underlying27 rfl info_po ?_)
                    | (refine wpList_store_whole rfl 27 _ _ rfl bp _ (poL t.pool A1 c1) rfl rfl HBc.out info_po rfl (by simp [Value.oneCell']) ?_; intro w18 hb18 ho18; have HB18 := Go.Lib.hid hb18; clear hb18))
                  have HI2 : Hid (StI w bp room life now k w18 U1 t.pool A1 c1) := Go.Lib.hid (HI.out.put HT.out.bel HT.out.po HN1.out ho18 HB18.out HST.out.1)
                  clear HI HT HN1 HB18 HBc HST HRT
                  obtain ⟨p1, hp1⟩ : ∃ p1, p1 = t.pool := ⟨_, rfl⟩
                  rw [← hp1] at HI2
                  clear hp1
                  go_upto_if 95 with fail
                  go_cut [12] (fun n wx => ∃ now2 U2 p2 A2 c2, n = .int .i64 now2 ∧ StI w bp room life now2 (k + 1) wx U2 p2 A2 c2)
                  case first =>
                    by_cases hlt2 : k < l'.length
                    · obtain ⟨ad2, rfl, hv2, hx2⟩ := (HT2.out.below HI2.out.below).at_ hlt2
                      have j2 : (k : Int) < (l'.length : Int) := by omega
                      have hd0 : (0 : Int) ≤ (l'[k].toNat : Int) := by omega
                      have hd1 : (l'[k].toNat : Int) ≤ 255 := by have := l'[k].toNat_lt; omega
                      generalize (l'[k].toNat : Int) = dd at *
                      obtain ⟨q, many, htq, hsq⟩ := HI2.out.st.tick (by omega) hd0 hd1
                      have HTQ := Go.Lib.hid htq
                      have HSQ := Go.Lib.hid hsq
                      clear htq hsq
                      have n1 := HI2.out.st.n1
                      have n0 : 0 ≤ now := by have := HI2.out.st.enow; have := HI2.out.st.right.n0; omega
                      have s1 : IntKind.i64.wrap dd = dd := IntWalk.i64_in _ (by omega)
                      have s2 : IntKind.i64.wrap (now + dd) = now + dd := IntWalk.i64_in _ (by omega)
                      have hbl2 := HI2.out.box.lt
                      go_upto_region 22 with (first
                        | (refine wpList_load_box rfl 27 _ rfl bp rfl (poL p1 A1 c1) _ HI2.out.box Try.underlying27 rfl info_po ?_)
                        | (go_at_call 9; refine (ctick p1 A1 c1 (now + dd) w18 U1 q many 0 HTQ.out HI2.out.is HI2.out.st.right).mono ?_; rintro e w21 ⟨A2, c2, rfl, hq, y21⟩; have HQ := Go.Lib.hid hq; clear hq; dsimp only))
                      have y22 : Below w21.heap.size w21 (w21.alloc (oPo q A2 c2)) := (Below.refl _ _).alloc (Nat.le_refl _) _
                      have z21 := y21.size
                      have H22 : Hid (Bxo (w21.alloc (oPo q A2 c2)) w21.heap.size 27 (poL q A2 c2)) := Go.Lib.hid (Bxo.made w21 27 (poL q A2 c2))
                      have HQ22 := Go.Lib.hid (HQ.out.at y22)
                      have Y22 := Go.Lib.hid (y21.trans (y22.mono z21))
                      have HB22 := Go.Lib.hid (HI2.out.box.keep Y22.out hbl2)
                      have HNQ : Hid (¬ growV U1 w18 w21 bp) := Go.Lib.hid (fun h => h.elim HI2.out.out (fun h => by omega))
                      generalize w21.alloc (oPo q A2 c2) = W22 at *
                      go_wp2_with (first
                        | (refine wpList_load_box rfl 27 _ rfl w21.heap.size rfl (poL q A2 c2) _ H22.out Try.underlying27 rfl info_po ?_)
                        | (refine wpList_store_whole rfl 27 _ _ rfl bp _ (poL q A2 c2) rfl rfl HB22.out info_po rfl (by simp [Value.oneCell']) ?_; intro w24 hb24 ho24; have HB24 := Go.Lib.hid hb24; clear hb24))
                      go_meet
                      exact ⟨now + dd, _, q, A2, c2, rfl, HI2.out.put Y22.out HQ22.out HNQ.out ho24 HB24.out HSQ.out⟩
                    · have j2 : ¬ (k : Int) < (l'.length : Int) := by omega
                      go_wp2_with fail
                      go_meet
                      exact ⟨now, U1, p1, A1, c1, rfl, HI2.out.next⟩
                  case rest =>
                    clear HI2
                    obtain ⟨now2, U2, p2, A2, c2, rfl, hI2⟩ := hcut
                    have HI3 := Go.Lib.hid hI2
                    clear hI2
                    obtain ⟨tr, th, tl⟩ := HI3.out.st.told
                    have HTR := Go.Lib.hid tr
                    clear tr
                    have th2 : ¬ room < (heldP p2 : Int) := by omega
                    have tl2 : ¬ (64 : Int) < (p2.list.length : Int) := by omega
                    have HF2 := Go.Lib.hid (right_few HI3.out.st.right)
                    go_upto_region 28 with (first
                      | (refine wpList_load_box rfl 27 _ rfl bp rfl (poL p2 A2 c2) _ HI3.out.box Try.underlying27 rfl info_po ?_)
                      | (go_at_call 10; refine (cright p2 A2 c2 _ U2 true HTR.out HI3.out.is HF2.out).mono ?_; rintro e w25 ⟨rfl, y25⟩; have HI4 := Go.Lib.hid (HI3.out.step y25); dsimp only)
                      | (refine wpList_load_box rfl 27 _ rfl bp rfl (poL p2 A2 c2) _ HI4.out.box Try.underlying27 rfl info_po ?_)
                      | (go_at_call 11; refine (cheld p2 A2 c2 _ U2 HI4.out.is HF2.out).mono ?_; rintro e w26 ⟨rfl, y26⟩; have HI5 := Go.Lib.hid (HI4.out.step y26); have d3 := HI5.out.box.cell 3 rfl; dsimp only))
                    clear HTR HF2 th th2 tl2 HI3 HI4
                    have q2 := HI5.out.is.is.cap
                    have q1 := HI5.out.is.is.len
                    have hn1 := HI5.out.st.n1
                    have hn0 : 0 ≤ now2 := by have := HI5.out.st.enow; have := HI5.out.st.right.n0; omega
                    go_loop [21] (fun i => ∃ j : Nat, j ≤ p2.list.length ∧ i = .int .i64 j) (fun i => p2.list.length - (intOf i).toNat)
                    case atStart => exact ⟨0, by omega, rfl⟩
                    case round =>
                      obtain ⟨j, hj, rfl⟩ := hrel
                      by_cases hjl : j < p2.list.length
                      · obtain ⟨ad2, Ao2, co2, Ab2, cb2, Ar2, cr2, hA2, hb2, hc2⟩ := HI5.out.is.is.fs.at_ hjl
                        subst hA2
                        have e4 := at_off 4 hc2.c4 (by omega)
                        have hgood := HI5.out.st.right.good _ (List.getElem_mem hjl)
                        have hbo := HI5.out.st.born _ (List.getElem_mem hjl)
                        have hb0' := hgood.b0
                        have hb1' := hgood.b1
                        have hen := HI5.out.st.enow
                        generalize p2.list[j].born = bb at *
                        clear hgood hc2
                        have k1 : (0 : Int) ≤ (j : Int) := by omega
                        have k2 : (j : Int) < (p2.list.length : Int) := by omega
                        have s1 : IntKind.i64.wrap (now2 - bb) = now2 - bb := IntWalk.i64_in _ (by omega)
                        have s2 : ¬ life ≤ now2 - bb := by omega
                        go_wp2
                        go_round
                        case rel => exact ⟨j + 1, by omega, by go_num⟩
                        case measure => simp [intOf]; omega
                      · have k2 : ¬ (j : Int) < (p2.list.length : Int) := by omega
                        go_wp2
                        go_round
                        case rel => exact ⟨k + 1, now2, U2, p2, A2, c2, by omega, by go_num, rfl, HI5.out⟩
                        case measure => simp [intOf]; omega
            · obtain rfl : k = l.length := by omega
              go_wp2
              go_ret
              exact ⟨rfl, hI.below⟩
    · go_wp2
      go_ret
      exact ⟨rfl, x3⟩
  · go_wp2_with fail
    refine (cnew room life w1 ⟨0, 0, 0, []⟩ 1 (if_neg hN)).mono ?_
    rintro e w2 ⟨Ap, cp, rfl, hp, y2⟩
    dsimp only
    have x2 := y1.trans (y2.mono y1.size)
    have b3 : Below w.heap.size w2 (w2.alloc (poO ⟨0, 0, 0, []⟩ Ap cp)) := (Below.refl _ _).alloc x2.size _
    go_wp2
    go_ret
    exact ⟨rfl, x2.trans b3⟩
end Go.Proofs.Ythejakbjekjhjaa
