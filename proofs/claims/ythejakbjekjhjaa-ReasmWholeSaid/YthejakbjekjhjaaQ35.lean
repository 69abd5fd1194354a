/- Lemmas of layer 7, several texts in one. -/
import Derived.Deep.RegionHeld3
import Derived.Deep.DeepCutAuto
import Derived.Deep.CutBlock
import Derived.Test.YthejakbjekjhjaaQ25
import Derived.Test.YthejakbjekjhjaaQ31
import Derived.Test.YthejakbjekjhjaaQ32
import Derived.Test.YthejakbjekjhjaaQ34
/- A statement of layer 7: a packet that was cut comes together. -/
namespace Go.Proofs.Ythejakbjekjhjaa
open Go.ChangeShapes Go.WideShapes Go.ChangeAt Go.RowKit
set_option linter.unusedVariables false
set_option linter.unusedSimpArgs false

/-- the packet as the statement takes it: a whole one. -/
abbrev xW (p : Pk) : Pk := ⟨p.tos, p.id, p.df, false, 0, p.ttl, p.proto, p.src, p.dst, p.opts, p.body⟩
theorem bs_bv {w : World} {A : Option Addr} {l : List UInt8} (h : Bs w w.heap.size A l) : Bv w (oldV w) A l := by
  rcases h with h | ⟨ad, e, hlt, hc⟩
  · exact .inl h
  · exact .inr ⟨ad, e, hlt, hc⟩
theorem pk_old {w : World} {p : Pk} {Ao : Option Addr} {co : Nat} {Ab : Option Addr} {cb : Nat} (h : PkIn w p Ao co Ab cb) : PkAt w (oldV w) (xW p) Ao co Ab cb :=
  ⟨h.rng.s0, h.rng.s1, h.rng.d0, h.rng.d1, ⟨h.olen, h.ocap, h.onil, bs_bv h.obs⟩, ⟨h.blen, h.bcap, h.bnil, bs_bv h.bbs⟩, fun b hb => hb⟩
def lenOf : Value → Nat
  | .slice _ n _ => n
  | _ => 0
set_option maxRecDepth 100000 in
set_option maxHeartbeats 16000000 in
theorem reasmWhole (p : Pk) (Ao : Option Addr) (co : Nat) (Ab : Option Addr) (cb : Nat) (A : Option Addr) (c : Nat) (l : List UInt8) (A' : Option Addr) (c' : Nat) (l' : List UInt8) (w : World) (hp : PkIn w p Ao co Ab cb) (hr : Bs w w.heap.size A l) (hc : l.length ≤ c) (hm : c ≤ 9223372036854775807) (hr' : Bs w w.heap.size A' l') (hc' : l'.length ≤ c') (hm' : c' ≤ 9223372036854775807) :
    Calls Try.prog 4 #[pkV p Ao co Ab cb, .slice A l.length c, .slice A' l'.length c'] w fun e w' => e = .returned (.bool true) ∧ Below w.heap.size w w' := by
  have HPK := Go.Lib.hid (pk_old hp)
  have HC := Go.Lib.hid hr
  have HO := Go.Lib.hid hr'
  clear hp hr hr'
  have m0 : Bxo (w.alloc (oPk p Ao co Ab cb)) w.heap.size 33 (pkL p Ao co Ab cb) := Bxo.made w 33 (pkL p Ao co Ab cb)
  have b0 : Below w.heap.size w (w.alloc (oPk p Ao co Ab cb)) := (Below.refl _ _).alloc (Nat.le_refl _) _
  have z0 : (w.alloc (oPk p Ao co Ab cb)).heap.size = w.heap.size + 1 := by simp
  go_enter Try.func4, Try.ntmps4
  go_upto_region 1 with fail
  have M0 := Go.Lib.hid m0
  clear m0
  generalize w.alloc (oPk p Ao co Ab cb) = W at *
  go_upto_region 3 with (go_at_call 6; refine (cawake W).mono ?_; rintro e w1 ⟨rfl, y1⟩; have M1 := Go.Lib.hid (M0.out.keep y1 M0.out.lt); have x1 := b0.trans (y1.mono b0.size); have z1 := y1.size; clear y1 M0 b0; dsimp only)
  go_upto_region 4 with (first
    | (refine wpList_store_any rfl 4 _ _ rfl w.heap.size 3 33 _ [.bool false] _ rfl rfl rfl M1.out info_b1 (by show 3 + 1 ≤ 11; omega) (by simp [Value.oneCell']) ?_; intro w2 hb2 ho2; have M2 := Go.Lib.hid hb2; clear hb2 M1)
    | (refine wpList_store_any rfl 3 _ _ rfl w.heap.size 4 33 _ [.int .i64 0] _ rfl rfl rfl M2.out info_i1 (by show 4 + 1 ≤ 11; omega) (by simp [Value.oneCell']) ?_; intro w3 hb3 ho3; have M3 : Hid (Bxo w3 w.heap.size 33 (pkL (xW p) Ao co Ab cb)) := Go.Lib.hid hb3; clear hb3 M2))
  have x3 := (x1.trans (ho2.below (Nat.le_refl _))).trans (ho3.below (Nat.le_refl _))
  have z3 : W.heap.size ≤ w3.heap.size := by have := ho2.size; have := ho3.size; omega
  clear ho2 ho3 x1 z1
  obtain ⟨x, hx⟩ : ∃ x, xW p = x := ⟨_, rfl⟩
  have HMX : Hid (x.mf = false ∧ x.off = 0) := Go.Lib.hid (by rw [← hx]; exact ⟨rfl, rfl⟩)
  rw [hx] at M3 HPK
  clear hx
  have d10 := M3.out.cell 10 rfl
  by_cases hM : mayB x = true
  · have HM := Go.Lib.hid hM
    clear hM
    by_cases h600 : x.body.length ≤ 600
    · by_cases h9 : 9 ≤ x.body.length
      · have q1 := HPK.out.b.len
        obtain ⟨adb, rfl⟩ : ∃ ad, Ab = some ad := by
          rcases HPK.out.b.bs with h | ⟨ad, h, _⟩
          · rw [h] at h9; simp at h9
          · exact ⟨ad, h⟩
        have q2 := HPK.out.b.cap
        go_upto_block 0 with (first
          | (refine wpList_load_box rfl 33 _ rfl w.heap.size rfl (pkL x Ao co (some adb) cb) _ M3.out Try.underlying33 rfl info_pk ?_)
          | (go_at_call 12; refine (rmay0 x Ao co (some adb) cb w3).mono ?_; rintro e w4 ⟨rfl, y4⟩; rw [HM.out]; have x4 := x3.trans (y4.mono x3.size); have M4 := Go.Lib.hid (M3.out.keep y4 M3.out.lt); have d10' := M4.out.cell 10 rfl; have z4 := y4.size; clear y4; dsimp only))
        have HI : Hid (CutI w x Ao co (some adb) cb w4 none 0 [] [] 0) := Go.Lib.hid ⟨x4, M4.out, OwnK.none_ _ _, (fun e he => by cases he), rfl, cut_none x (by omega)⟩
        have zw : w.heap.size + 1 ≤ w4.heap.size := by omega
        clear d10 d10' M3 M4 x3 x4 z3 z4 z0
        go_cut [7, 8] (fun s a wx => ∃ A2 c2 es P at_, s = .slice A2 es.length c2 ∧ a = .int .i64 (at_ : Nat) ∧ CutI w x Ao co (some adb) cb wx A2 c2 es P at_ ∧ w.heap.size + 1 ≤ wx.heap.size ∧ es.length ≤ 19)
        case first =>
          go_wp2_with fail
          go_loopw [7, 8, 9] (fun s a i wr => ∃ (A2 : Option Addr) (c2 : Nat) (es : List Ep) (P : List Rn) (at_ k : Nat), k ≤ l.length ∧ k ≤ 19 ∧ s = .slice A2 es.length c2 ∧ a = .int .i64 at_ ∧ i = .int .i64 k ∧ CutI w x Ao co (some adb) cb wr A2 c2 es P at_ ∧ w.heap.size + 1 ≤ wr.heap.size ∧ es.length ≤ k) (fun _ _ i _ => l.length - (intOf i).toNat)
          case atStart => exact ⟨none, 0, [], [], 0, 0, by omega, by omega, rfl, rfl, rfl, HI.out, zw, Nat.zero_le _⟩
          case round =>
            obtain ⟨A2, c2, es, P, at_, k, hk, hk19, rfl, rfl, rfl, hI, zr, hek⟩ := hrel
            clear HI zw
            have HI := Go.Lib.hid hI
            clear hI
            have hat := HI.out.cut.lt
            have ha8 := HI.out.cut.a8
            have hes := HI.out.row.cap
            have d10 := HI.out.box.cell 10 rfl
            by_cases hlt : k < l.length
            · by_cases h19 : k < 19
              · obtain ⟨ad, rfl, hv, hx⟩ := (HC.out.below HI.out.below).at_ hlt
                have j1 : (k : Int) < (l.length : Int) := by omega
                have j2 : (k : Int) < 19 := by omega
                have hd0 : (0 : Int) ≤ (l[k].toNat : Int) := by omega
                have hd1 : (l[k].toNat : Int) ≤ 255 := by have := l[k].toNat_lt; omega
                have he : (l[k].toNat : Int) = ((l[k].toNat : Nat) : Int) := rfl
                generalize l[k].toNat = dn at *
                have r1 : Int.tmod (dn : Int) 16 = ((dn % 16 : Nat) : Int) := by rw [Int.tmod_eq_emod_of_nonneg (by omega)]; omega
                have hdn : dn % 16 < 16 := Nat.mod_lt _ (by omega)
                go_upto_region 12 with fail
                obtain ⟨to_, hto⟩ : ∃ to_ : Nat, to_ = at_ + 8 + 8 * (dn % 16) := ⟨_, rfl⟩
                have hto2 : (at_ : Int) + 8 + 8 * ((dn : Int) % 16) = (to_ : Int) := by omega
                rw [hto2]
                have t1 : at_ < to_ := by omega
                have t2 : to_ ≤ at_ + 128 := by omega
                have t8 : to_ % 8 = 0 := by omega
                clear hto hto2 hd0 hd1 r1 hdn he hx hv
                by_cases hge : to_ < x.body.length
                · have g1 : ¬ (x.body.length : Int) ≤ (to_ : Int) := by omega
                  go_upto_region 14 with (refine wpList_load_box rfl 33 _ rfl w.heap.size rfl (pkL x Ao co (some adb) cb) _ HI.out.box Try.underlying33 rfl info_pk ?_)
                  have B5 : Hid (Bxo (wr.alloc (oPk x Ao co (some adb) cb)) wr.heap.size 33 (pkL x Ao co (some adb) cb)) := Go.Lib.hid (Bxo.made wr 33 (pkL x Ao co (some adb) cb))
                  have y5 : Below wr.heap.size wr (wr.alloc (oPk x Ao co (some adb) cb)) := (Below.refl _ _).alloc (Nat.le_refl _) _
                  have z5 : (wr.alloc (oPk x Ao co (some adb) cb)).heap.size = wr.heap.size + 1 := by simp
                  generalize wr.alloc (oPk x Ao co (some adb) cb) = W5 at *
                  have hbl : w.heap.size < wr.heap.size := by omega
                  have k1 : (0 : Int) ≤ (at_ : Int) := by omega
                  have k2 : (at_ : Int) ≤ (to_ : Int) := by omega
                  have k3 : (to_ : Int) ≤ (cb : Int) := by omega
                  try simp only [Act.put, List.setIfInBounds_toArray, List.set_cons_zero, List.set_cons_succ]
                  refine wp_region_held_drew (S := fun Y => Below wr.heap.size wr Y) (by kernel_rfl) ?_ (fun hHeld => ?_)
                  · exact below_drew y5
                  have B5 : Hid (Bxo W5.drew wr.heap.size 33 (pkL x Ao co (some adb) cb)) := Go.Lib.hid B5.out
                  have z5 : W5.drew.heap.size = wr.heap.size + 1 := z5
                  generalize W5.drew = W6 at *
                  refine wpAnyH_take (i := 0) (oi := ⟨some 66, _, _, _, _, _⟩) (v := ?_) rfl (by kernel_rfl) (by kernel_rfl) (by kernel_rfl) (fun _ _ _ h => h) (Or.inl ⟨by rfl, ?_⟩) (by assumption) ?_
                  rotate_left
                  · intro w hSw; (try dsimp only at hSw); go_simp; (try with_reducible rfl)
                  try simp only [Act.put, List.setIfInBounds_toArray, List.set_cons_zero, List.set_cons_succ]
                  refine wpAnyH_take (i := 1) (oi := ⟨some 67, _, _, _, _, _⟩) (v := ?_) rfl (by kernel_rfl) (by kernel_rfl) (by kernel_rfl) (fun _ _ _ h => h) (Or.inl ⟨by rfl, ?_⟩) (by assumption) ?_
                  rotate_left
                  · intro w hSw; (try dsimp only at hSw); go_simp; (try with_reducible rfl)
                  try simp only [Act.put, List.setIfInBounds_toArray, List.set_cons_zero, List.set_cons_succ]
                  refine wpAnyH_take (i := 2) (oi := ⟨some 68, _, _, _, _, _⟩) (v := ?_) rfl (by kernel_rfl) (by kernel_rfl) (by kernel_rfl) (fun _ _ _ h => h) (Or.inl ⟨by rfl, ?_⟩) (by assumption) ?_
                  rotate_left
                  · intro w hSw; have c10 := (HI.out.box.keep hSw hbl).cell 10 rfl; (try dsimp only at hSw); go_simp; (try with_reducible rfl)
                  try simp only [Act.put, List.setIfInBounds_toArray, List.set_cons_zero, List.set_cons_succ]
                  refine wpAnyH_take (i := 3) (oi := ⟨some 69, _, _, _, _, _⟩) (v := ?_) rfl (by kernel_rfl) (by kernel_rfl) (by kernel_rfl) (fun _ _ _ h => h) (Or.inl ⟨by rfl, ?_⟩) (by assumption) ?_
                  rotate_left
                  · intro w hSw; (try dsimp only at hSw); go_simp; (try with_reducible rfl)
                  try simp only [Act.put, List.setIfInBounds_toArray, List.set_cons_zero, List.set_cons_succ]
                  refine wpAnyH_take (i := 4) (oi := ⟨some 70, _, _, _, _, _⟩) (v := ?_) rfl (by kernel_rfl) (by kernel_rfl) (by kernel_rfl) (fun _ _ _ h => h) (Or.inl ⟨by rfl, ?_⟩) (by assumption) ?_
                  rotate_left
                  · intro w hSw; (try dsimp only at hSw); go_simp; (try with_reducible rfl)
                  try simp only [Act.put, List.setIfInBounds_toArray, List.set_cons_zero, List.set_cons_succ]
                  refine wpAnyH_take (i := 5) (oi := ⟨some 71, _, _, _, _, _⟩) (v := ?_) rfl (by kernel_rfl) (by kernel_rfl) (by kernel_rfl) (fun _ _ _ h => h) (Or.inl ⟨by rfl, ?_⟩) (by assumption) ?_
                  rotate_left
                  · intro w hSw; (try dsimp only at hSw); go_simp; (try with_reducible rfl)
                  try simp only [Act.put, List.setIfInBounds_toArray, List.set_cons_zero, List.set_cons_succ]
                  refine wpAnyH_take (i := 6) (oi := ⟨some 72, _, _, _, _, _⟩) (v := ?_) rfl (by kernel_rfl) (by kernel_rfl) (by kernel_rfl) (fun _ _ _ h => h) (Or.inl ⟨by rfl, ?_⟩) (by assumption) ?_
                  rotate_left
                  · intro w hSw; (try dsimp only at hSw); go_simp; (try with_reducible rfl)
                  try simp only [Act.put, List.setIfInBounds_toArray, List.set_cons_zero, List.set_cons_succ]
                  refine wpAnyH_ready (rs := [7]) (by kernel_rfl) (by simp) (AllReadyH.cons (o := ⟨none, _, _, _, _, _⟩) rfl (fun Kc hKc => ?_) AllReadyH.nil)
                  rw [if_pos (by rfl)]
                  refine step_store_any 4 _ _ rfl wr.heap.size 3 33 _ [.bool true] _ rfl rfl rfl B5.out info_b1 (by show 3 + 1 ≤ 11; omega) (by simp [Value.oneCell']) ?_; intro w6 hb6 ho6; have B6 := Go.Lib.hid hb6; clear hb6
                  refine hKc.out _ _ (hHeld.trans (ho6.below (Nat.le_refl _))) (fun hHeld => ?_)
                  clear hKc Kc
                  try simp only [Act.put, List.setIfInBounds_toArray, List.set_cons_zero, List.set_cons_succ]
                  refine wpAnyH_take (i := 8) (oi := ⟨some 73, _, _, _, _, _⟩) (v := ?_) rfl (by kernel_rfl) (by kernel_rfl) (by kernel_rfl) (fun _ _ _ h => h) (Or.inl ⟨by rfl, ?_⟩) (by assumption) ?_
                  rotate_left
                  · intro w hSw; (try dsimp only at hSw); go_simp; (try with_reducible rfl)
                  try simp only [Act.put, List.setIfInBounds_toArray, List.set_cons_zero, List.set_cons_succ]
                  refine wpAnyH_ready (rs := [9]) (by kernel_rfl) (by simp) (AllReadyH.cons (o := ⟨none, _, _, _, _, _⟩) rfl (fun Kc hKc => ?_) AllReadyH.nil)
                  rw [if_pos (by rfl)]
                  refine step_store_any 3 _ _ rfl wr.heap.size 4 33 _ [.int .i64 at_] _ rfl rfl rfl B6.out info_i1 (by show 4 + 1 ≤ 11; omega) (by simp [Value.oneCell']) ?_; intro w7 hb7 ho7; have B7 := Go.Lib.hid hb7; clear hb7
                  refine hKc.out _ _ (hHeld.trans (ho7.below (Nat.le_refl _))) (fun hHeld => ?_)
                  clear hKc Kc
                  try simp only [Act.put, List.setIfInBounds_toArray, List.set_cons_zero, List.set_cons_succ]
                  refine wpAnyH_take (i := 10) (oi := ⟨some 74, _, _, _, _, _⟩) (v := ?_) rfl (by kernel_rfl) (by kernel_rfl) (by kernel_rfl) (fun _ _ _ h => h) (Or.inl ⟨by rfl, ?_⟩) (by assumption) ?_
                  rotate_left
                  · intro w hSw; (try dsimp only at hSw); go_simp; (try with_reducible rfl)
                  try simp only [Act.put, List.setIfInBounds_toArray, List.set_cons_zero, List.set_cons_succ]
                  refine wpAnyH_ready (rs := [11]) (by kernel_rfl) (by simp) (AllReadyH.cons (o := ⟨none, _, _, _, _, _⟩) rfl (fun Kc hKc => ?_) AllReadyH.nil)
                  rw [if_pos (by rfl)]
                  rw [if_neg (show ¬ cb = at_ by omega)]; refine step_store_any 23 _ _ rfl wr.heap.size 10 33 _ [.slice (some (adb.add at_)) (to_ - at_) (cb - at_)] _ rfl rfl rfl B7.out info_bs (by show 10 + 1 ≤ 11; omega) (by simp [Value.oneCell']) ?_; intro w8 hb8 ho8; have B8 := Go.Lib.hid hb8; clear hb8
                  refine hKc.out _ _ (hHeld.trans (ho8.below (Nat.le_refl _))) (fun hHeld => ?_)
                  clear hKc Kc
                  try simp only [Act.put, List.setIfInBounds_toArray, List.set_cons_zero, List.set_cons_succ]
                  refine wpAnyH_done (by kernel_rfl) ?_ _
                  have B8 : Hid (Bxo w8 wr.heap.size 33 (pkL (pieceW x (partR x at_ to_) true) Ao co (some (adb.add at_)) (cb - at_))) := Go.Lib.hid (by have h := B8.out; rw [← part_len x (a := at_) (b := to_) (by omega) (by omega)] at h; exact h)
                  have HI8 := Go.Lib.hid (HI.out.step hHeld)
                  have z8 := hHeld.size
                  have V9 : Hid (Bxo (w8.alloc (oPk (pieceW x (partR x at_ to_) true) Ao co (some (adb.add at_)) (cb - at_))) w8.heap.size 33 (pkL (pieceW x (partR x at_ to_) true) Ao co (some (adb.add at_)) (cb - at_))) := Go.Lib.hid (Bxo.made w8 33 (pkL (pieceW x (partR x at_ to_) true) Ao co (some (adb.add at_)) (cb - at_)))
                  have HI9 := Go.Lib.hid (HI8.out.step ((Below.refl w8.heap.size w8).alloc (Nat.le_refl _) (oPk (pieceW x (partR x at_ to_) true) Ao co (some (adb.add at_)) (cb - at_))))
                  have HI9b : w.heap.size + 1 ≤ (w8.alloc (oPk (pieceW x (partR x at_ to_) true) Ao co (some (adb.add at_)) (cb - at_))).heap.size := by simp; omega
                  obtain ⟨i0, hi, hz0, hz1, hz2⟩ := info_parts info_ipz
                  have hes1 := hes.1
                  have hes2 := hes.2
                  clear hHeld ho6 ho7 ho8 B6 B7 B5 HI HC d10 y5 z5 hes k1 k2 k3 g1 HI8
                  go_upto_region 16 with (first
                    | (refine wpList_load_box rfl 33 _ rfl wr.heap.size rfl (pkL (pieceW x (partR x at_ to_) true) Ao co (some (adb.add at_)) (cb - at_)) _ B8.out Try.underlying33 rfl info_pk ?_)
                    | (at_builtin; refine wpList_append_rdK rfl _ _ 22 rfl (w.heap.size + 1) 33 i0 _ 11 104 Try.underlying22 hi hz0 hz1 hz2 rfl (by omega) (.slice A2 es.length c2) es.length (es.flatMap Ep.L) rfl HI9.out.row (some ⟨w8.heap.size, 0, none⟩) 1 1 (partE x true Ao co adb cb at_ to_).L rfl rfl (fun h => by cases h) (.inr ⟨_, rfl, V9.out.at⟩) (ep_L1 _) (by unfold maxLen; omega) (by omega) HI9b ?_; intro v10 w10 ho10 hg10 hat10; obtain ⟨A10, c10, rfl⟩ := own_slice ho10; rw [ownBlock_blk] at hg10; have HI10 := Go.Lib.hid (HI9.out.push HPK.out t1 t8 hge ho10 hg10); have z10 := Nat.le_trans HI9b hg10.size; clear ho10 hg10 hat10; dsimp only))
                  go_wp2_with fail
                  go_round
                  case rel => exact ⟨A10, c10, es ++ [(partE x true Ao co adb cb at_ to_)], P ++ [partR x at_ to_], to_, k + 1, by omega, by omega, by simp, rfl, by go_num, HI10.out, by omega, by simp; omega⟩
                  case measure => simp [intOf]; omega
                · have g1 : (x.body.length : Int) ≤ (to_ : Int) := by omega
                  go_wp2_with fail
                  go_meet
                  exact ⟨A2, c2, es, P, at_, rfl, rfl, HI.out, zr, by omega⟩
              · have j1 : (k : Int) < (l.length : Int) := by omega
                have j2 : ¬ (k : Int) < 19 := by omega
                go_wp2_with fail
                go_meet
                exact ⟨A2, c2, es, P, at_, rfl, rfl, HI.out, zr, by omega⟩
            · have j1 : ¬ (k : Int) < (l.length : Int) := by omega
              go_wp2_with fail
              go_meet
              exact ⟨A2, c2, es, P, at_, rfl, rfl, HI.out, zr, by omega⟩
        case rest =>
          obtain ⟨A2, c2, es, P, at_, rfl, rfl, hI, zr, hel⟩ := hcut
          clear HI zw HC
          have HI := Go.Lib.hid hI
          clear hI
          by_cases hz : es = []
          · subst hz
            go_wp2_with fail
            go_ret
            exact ⟨rfl, HI.out.below⟩
          · have hep : 0 < es.length := List.length_pos_iff.2 hz
            have e0 : ((es.length : Int) == 0) = false := by rw [beq_eq_false_iff_ne]; omega
            have HST : Hid (StW x ⟨1000, 10, 0, []⟩ (es ++ [(partE x false Ao co adb cb at_ x.body.length)])) := Go.Lib.hid (StW.start HI.out.cut (fun h => hz (by have := HI.out.len; rw [h] at this; exact List.eq_nil_of_length_eq_zero this)) ((mayB_iff x).1 HM.out) HMX.out.2 HMX.out.1 h600 HI.out.eq rfl)
            clear hz
            have hes1 := HI.out.row.cap.1
            have hes2 := HI.out.row.cap.2
            have hat := HI.out.cut.lt
            go_upto_region 20 with (refine wpList_load_box rfl 33 _ rfl w.heap.size rfl (pkL x Ao co (some adb) cb) _ HI.out.box Try.underlying33 rfl info_pk ?_)
            have d10 := HI.out.box.cell 10 rfl
            have B5 : Hid (Bxo (wc.alloc (oPk x Ao co (some adb) cb)) wc.heap.size 33 (pkL x Ao co (some adb) cb)) := Go.Lib.hid (Bxo.made wc 33 (pkL x Ao co (some adb) cb))
            have y5 : Below wc.heap.size wc (wc.alloc (oPk x Ao co (some adb) cb)) := (Below.refl _ _).alloc (Nat.le_refl _) _
            generalize wc.alloc (oPk x Ao co (some adb) cb) = W5 at *
            have hbl : w.heap.size < wc.heap.size := by omega
            have k1 : (0 : Int) ≤ (at_ : Int) := by omega
            have k2 : (at_ : Int) ≤ (x.body.length : Int) := by omega
            have k3 : (x.body.length : Int) ≤ (cb : Int) := by omega
            clear e0
            try simp only [Act.put, List.setIfInBounds_toArray, List.set_cons_zero, List.set_cons_succ]
            refine wp_region_held_drew (S := fun Y => Below wc.heap.size wc Y) (by kernel_rfl) ?_ (fun hHeld => ?_)
            · exact below_drew y5
            have B5 : Hid (Bxo W5.drew wc.heap.size 33 (pkL x Ao co (some adb) cb)) := Go.Lib.hid B5.out
            generalize W5.drew = W6 at *
            refine wpAnyH_take (i := 0) (oi := ⟨some 84, _, _, _, _, _⟩) (v := ?_) rfl (by kernel_rfl) (by kernel_rfl) (by kernel_rfl) (fun _ _ _ h => h) (Or.inl ⟨by rfl, ?_⟩) (by assumption) ?_
            rotate_left
            · intro w hSw; (try dsimp only at hSw); go_simp; (try with_reducible rfl)
            try simp only [Act.put, List.setIfInBounds_toArray, List.set_cons_zero, List.set_cons_succ]
            refine wpAnyH_take (i := 1) (oi := ⟨some 85, _, _, _, _, _⟩) (v := ?_) rfl (by kernel_rfl) (by kernel_rfl) (by kernel_rfl) (fun _ _ _ h => h) (Or.inl ⟨by rfl, ?_⟩) (by assumption) ?_
            rotate_left
            · intro w hSw; (try dsimp only at hSw); go_simp; (try with_reducible rfl)
            try simp only [Act.put, List.setIfInBounds_toArray, List.set_cons_zero, List.set_cons_succ]
            refine wpAnyH_take (i := 2) (oi := ⟨some 86, _, _, _, _, _⟩) (v := ?_) rfl (by kernel_rfl) (by kernel_rfl) (by kernel_rfl) (fun _ _ _ h => h) (Or.inl ⟨by rfl, ?_⟩) (by assumption) ?_
            rotate_left
            · intro w hSw; have c10 := (HI.out.box.keep hSw hbl).cell 10 rfl; (try dsimp only at hSw); go_simp; (try with_reducible rfl)
            try simp only [Act.put, List.setIfInBounds_toArray, List.set_cons_zero, List.set_cons_succ]
            refine wpAnyH_take (i := 3) (oi := ⟨some 87, _, _, _, _, _⟩) (v := ?_) rfl (by kernel_rfl) (by kernel_rfl) (by kernel_rfl) (fun _ _ _ h => h) (Or.inl ⟨by rfl, ?_⟩) (by assumption) ?_
            rotate_left
            · intro w hSw; (try dsimp only at hSw); go_simp; (try with_reducible rfl)
            try simp only [Act.put, List.setIfInBounds_toArray, List.set_cons_zero, List.set_cons_succ]
            refine wpAnyH_take (i := 4) (oi := ⟨some 88, _, _, _, _, _⟩) (v := ?_) rfl (by kernel_rfl) (by kernel_rfl) (by kernel_rfl) (fun _ _ _ h => h) (Or.inl ⟨by rfl, ?_⟩) (by assumption) ?_
            rotate_left
            · intro w hSw; (try dsimp only at hSw); go_simp; (try with_reducible rfl)
            try simp only [Act.put, List.setIfInBounds_toArray, List.set_cons_zero, List.set_cons_succ]
            refine wpAnyH_take (i := 5) (oi := ⟨some 89, _, _, _, _, _⟩) (v := ?_) rfl (by kernel_rfl) (by kernel_rfl) (by kernel_rfl) (fun _ _ _ h => h) (Or.inl ⟨by rfl, ?_⟩) (by assumption) ?_
            rotate_left
            · intro w hSw; (try dsimp only at hSw); go_simp; (try with_reducible rfl)
            try simp only [Act.put, List.setIfInBounds_toArray, List.set_cons_zero, List.set_cons_succ]
            refine wpAnyH_ready (rs := [6]) (by kernel_rfl) (by simp) (AllReadyH.cons (o := ⟨none, _, _, _, _, _⟩) rfl (fun Kc hKc => ?_) AllReadyH.nil)
            rw [if_pos (by rfl)]
            refine step_store_any 3 _ _ rfl wc.heap.size 4 33 _ [.int .i64 at_] _ rfl rfl rfl B5.out info_i1 (by show 4 + 1 ≤ 11; omega) (by simp [Value.oneCell']) ?_; intro w7 hb7 ho7; have B7 := Go.Lib.hid hb7; clear hb7
            refine hKc.out _ _ (hHeld.trans (ho7.below (Nat.le_refl _))) (fun hHeld => ?_)
            clear hKc Kc
            try simp only [Act.put, List.setIfInBounds_toArray, List.set_cons_zero, List.set_cons_succ]
            refine wpAnyH_take (i := 7) (oi := ⟨some 90, _, _, _, _, _⟩) (v := ?_) rfl (by kernel_rfl) (by kernel_rfl) (by kernel_rfl) (fun _ _ _ h => h) (Or.inl ⟨by rfl, ?_⟩) (by assumption) ?_
            rotate_left
            · intro w hSw; (try dsimp only at hSw); go_simp; (try with_reducible rfl)
            try simp only [Act.put, List.setIfInBounds_toArray, List.set_cons_zero, List.set_cons_succ]
            refine wpAnyH_ready (rs := [8]) (by kernel_rfl) (by simp) (AllReadyH.cons (o := ⟨none, _, _, _, _, _⟩) rfl (fun Kc hKc => ?_) AllReadyH.nil)
            rw [if_pos (by rfl)]
            rw [if_neg (show ¬ cb = at_ by omega)]; refine step_store_any 23 _ _ rfl wc.heap.size 10 33 _ [.slice (some (adb.add at_)) (x.body.length - at_) (cb - at_)] _ rfl rfl rfl B7.out info_bs (by show 10 + 1 ≤ 11; omega) (by simp [Value.oneCell']) ?_; intro w8 hb8 ho8; have B8 := Go.Lib.hid hb8; clear hb8
            refine hKc.out _ _ (hHeld.trans (ho8.below (Nat.le_refl _))) (fun hHeld => ?_)
            clear hKc Kc
            try simp only [Act.put, List.setIfInBounds_toArray, List.set_cons_zero, List.set_cons_succ]
            refine wpAnyH_done (by kernel_rfl) ?_ _
            have B8 : Hid (Bxo w8 wc.heap.size 33 (pkL (pieceW x (partR x at_ x.body.length) false) Ao co (some (adb.add at_)) (cb - at_))) := Go.Lib.hid (by have h := B8.out; rw [← part_len x (a := at_) (b := x.body.length) (by omega) (by omega)] at h; unfold pkL at h; rw [HMX.out.1] at h; exact h)
            have HI8 := Go.Lib.hid (HI.out.step hHeld)
            have z8 := hHeld.size
            have V9 : Hid (Bxo (w8.alloc (oPk (pieceW x (partR x at_ x.body.length) false) Ao co (some (adb.add at_)) (cb - at_))) w8.heap.size 33 (pkL (pieceW x (partR x at_ x.body.length) false) Ao co (some (adb.add at_)) (cb - at_))) := Go.Lib.hid (Bxo.made w8 33 (pkL (pieceW x (partR x at_ x.body.length) false) Ao co (some (adb.add at_)) (cb - at_)))
            have HI9 := Go.Lib.hid (HI8.out.step ((Below.refl w8.heap.size w8).alloc (Nat.le_refl _) (oPk (pieceW x (partR x at_ x.body.length) false) Ao co (some (adb.add at_)) (cb - at_))))
            have HI9b : w.heap.size + 1 ≤ (w8.alloc (oPk (pieceW x (partR x at_ x.body.length) false) Ao co (some (adb.add at_)) (cb - at_))).heap.size := by simp; omega
            obtain ⟨i0, hi, hz0, hz1, hz2⟩ := info_parts info_ipz
            clear hHeld ho7 ho8 B7 B5 HI d10 y5 k1 k2 k3 HI8
            go_upto_region 22 with (first
              | (refine wpList_load_box rfl 33 _ rfl wc.heap.size rfl (pkL (pieceW x (partR x at_ x.body.length) false) Ao co (some (adb.add at_)) (cb - at_)) _ B8.out Try.underlying33 rfl info_pk ?_)
              | (at_builtin; refine wpList_append_rdK rfl _ _ 22 rfl (w.heap.size + 1) 33 i0 _ 11 104 Try.underlying22 hi hz0 hz1 hz2 rfl (by omega) (.slice A2 es.length c2) es.length (es.flatMap Ep.L) rfl HI9.out.row (some ⟨w8.heap.size, 0, none⟩) 1 1 (partE x false Ao co adb cb at_ x.body.length).L rfl rfl (fun h => by cases h) (.inr ⟨_, rfl, V9.out.at⟩) (ep_L1 _) (by unfold maxLen; omega) (by omega) HI9b ?_; intro v10 w10 ho10 hg10 hat10; obtain ⟨A10, c10, rfl⟩ := own_slice ho10; rw [ownBlock_blk] at hg10; have HD := Go.Lib.hid (HI9.out.last HPK.out ho10 hg10); have z10 := Nat.le_trans HI9b hg10.size; clear ho10 hg10 hat10; dsimp only))
            clear HI9 HI9b V9 B8 hi hz0 hz1 hz2 hes1 hes2
            go_upto_region 23 with (go_at_call 7; refine (cnew 1000 10 w10 ⟨1000, 10, 0, []⟩ 0 (if_pos (by omega))).mono ?_; rintro e w11 ⟨Ap, cp, rfl, hp, y11⟩; have HP := Go.Lib.hid hp; clear hp; dsimp only)
            have y12 : Below w11.heap.size w11 (w11.alloc (poO ⟨1000, 10, 0, []⟩ Ap cp)) := (Below.refl _ _).alloc (Nat.le_refl _) _
            have s12 : w11.heap.size < (w11.alloc (poO ⟨1000, 10, 0, []⟩ Ap cp)).heap.size := by simp
            have s11 := y11.size
            have V12 : ¬ growV (fun _ => False) w10 w11 w11.heap.size := fun h => by rcases h with h | h; exact h; omega
            have HI : Hid (PutI w x Ao co (some adb) cb w11.heap.size (w11.alloc (poO ⟨1000, 10, 0, []⟩ Ap cp)) A10 c10 (es ++ [(partE x false Ao co adb cb at_ x.body.length)]) (growV (fun _ => False) w10 w11) ⟨1000, 10, 0, []⟩ Ap cp) := Go.Lib.hid (HD.out.start (y11.trans (y12.mono s11)) (Bxo.made w11 27 (poL ⟨1000, 10, 0, []⟩ Ap cp)) s11 (HP.out.at y12) V12 HST.out (by simp; omega))
            have hl0 : es.length + 1 = (es ++ [(partE x false Ao co adb cb at_ x.body.length)]).length := by simp
            rw [hl0]
            clear hl0 HD HST HP y12 s12 s11 y11 V12 z10 z8 hep hel hat zr hbl
            generalize growV (fun _ => False) w10 w11 = V at *
            generalize w11.alloc (poO ⟨1000, 10, 0, []⟩ Ap cp) = W12 at *
            generalize w11.heap.size = bp at *
            generalize es ++ [(partE x false Ao co adb cb at_ x.body.length)] = es0 at *
            go_upto_region 24 with fail
            go_loopw [7, 15] (fun s i wr => ∃ (A3 : Option Addr) (c3 : Nat) (es : List Ep) (Vr : Nat → Prop) (q : Po) (Aq : Option Addr) (cq k : Nat), s = .slice A3 es.length c3 ∧ i = .int .i64 k ∧ k + es.length ≤ 20 ∧ PutI w x Ao co (some adb) cb bp wr A3 c3 es Vr q Aq cq) (fun s _ _ => lenOf s)
            case atStart => exact ⟨A10, c10, es0, V, ⟨1000, 10, 0, []⟩, Ap, cp, 0, rfl, rfl, by have := HI.out.few; omega, HI.out⟩
            case round =>
              obtain ⟨A3, c3, es3, Vr, q, Aq, cq, i, rfl, rfl, hik, hI⟩ := hrel
              clear HI
              have HI := Go.Lib.hid hI
              clear hI
              by_cases hz : es3 = []
              · have hpl : q.list = [] := by subst hz; exact HI.out.st.done
                have d3 := HI.out.pbox.cell 3 rfl
                rw [hpl] at d3
                subst hz
                clear hpl
                go_wp2_with fail
                go_ret
                exact ⟨rfl, HI.out.below⟩
              · have hep : 0 < es3.length := List.length_pos_iff.2 hz
                clear hz
                have e0 : ((es3.length : Int) == 0) = false := by rw [beq_eq_false_iff_ne]; omega
                have q3 := HI.out.row.cap.1
                have q4 := HI.out.row.cap.2
                go_upto_if 107 with fail
                go_cut [16] (fun s wx => ∃ k : Nat, k < es3.length ∧ s = .int .i64 k ∧ wr = wx)
                case first =>
                  by_cases hlt : i < l'.length
                  · obtain ⟨ad, rfl, hv, hx⟩ := (HO.out.below HI.out.below).at_ hlt
                    have j1 : (i : Int) < (l'.length : Int) := by omega
                    have hd0 : (0 : Int) ≤ (l'[i].toNat : Int) := by omega
                    have hd1 : (l'[i].toNat : Int) ≤ 255 := by have := l'[i].toNat_lt; omega
                    generalize l'[i].toNat = dn at *
                    have r1 : Int.tmod (dn : Int) (es3.length : Int) = ((dn % es3.length : Nat) : Int) := by rw [Int.tmod_eq_emod_of_nonneg (by omega)]; rfl
                    go_wp2_with fail
                    go_meet
                    exact ⟨dn % es3.length, Nat.mod_lt _ hep, rfl, rfl⟩
                  · have j1 : ¬ (i : Int) < (l'.length : Int) := by omega
                    go_wp2_with fail
                    go_meet
                    exact ⟨0, hep, rfl, rfl⟩
                case rest =>
                  obtain ⟨k, hk, rfl, rfl⟩ := hcut
                  clear e0
                  obtain ⟨ad3, rfl, HK3⟩ := HI.out.row.at_ hk
                  have wle := HI.out.below.size
                  have HXC : Hid (∀ Y, Below wr.heap.size wr Y → ∀ j v, (pkL es3[k].p es3[k].Ao es3[k].co es3[k].Ab es3[k].cb)[j]? = some v → Y.cell? ((ad3.add (k * 11)).add j) = some v) := Go.Lib.hid HK3
                  have HX0 := Go.Lib.hid ((HI.out.cell hk).at HI.out.below)
                  obtain ⟨xo, xb⟩ := HI.out.st.left hk
                  obtain ⟨t, ht, hte, hto, hout, hst⟩ := HI.out.st.take hk
                  have HTK := Go.Lib.hid ht
                  have HTE := Go.Lib.hid hte
                  have HTO := Go.Lib.hid hto
                  have HOUT := Go.Lib.hid hout
                  have HST := Go.Lib.hid hst
                  have HSUB : Hid (∀ e ∈ es3.take k ++ es3.drop (k + 1), e ∈ es3) := Go.Lib.hid (fun e he => (List.mem_append.1 he).elim List.mem_of_mem_take List.mem_of_mem_drop)
                  have HLEN : Hid ((es3.take k ++ es3.drop (k + 1)).length + 1 = es3.length) := Go.Lib.hid (by rw [List.length_append, List.length_take, List.length_drop]; omega)
                  clear HK3 ht hte hto hout hst
                  generalize es3[k] = e at *
                  have hbl := HI.out.pbox.lt
                  have hb0 := HI.out.b0
                  obtain ⟨U, hU⟩ : ∃ U : Nat → Prop, U = fun b => Vr b ∨ b < w.heap.size := ⟨_, rfl⟩
                  have HUlt : Hid (∀ b, U b → b < wr.heap.size) := Go.Lib.hid (by rw [hU]; exact fun b hb => hb.elim (HI.out.po.lt b) (fun h => Nat.lt_of_lt_of_le h wle))
                  have HUN : Hid (¬ U bp) := Go.Lib.hid (by rw [hU]; exact fun hb => hb.elim HI.out.out (fun h => by omega))
                  have HP : Hid (PoAt wr U q Aq cq) := Go.Lib.hid (HI.out.po.more (by rw [hU]; exact fun b h => .inl h) HUlt.out)
                  have HX : Hid (PkAt wr U e.p e.Ao e.co e.Ab e.cb) := Go.Lib.hid (HX0.out.more (by rw [hU]; exact fun b h => .inr h) HUlt.out)
                  have HB := Go.Lib.hid HI.out.pbox
                  have HRT := Go.Lib.hid HI.out.st.right
                  clear hU HX0
                  have i1 : (0 : Int) ≤ (k : Int) := by omega
                  have i2 : (k : Int) < (es3.length : Int) := by omega
                  go_upto_region 29 with fail
                  go_cut [17, 18, 19, 20] (fun a b c d wx => ∃ g9 g10 A' c' Ao' co' Ab' cb' U', a = .pointer (some ⟨g9, 0, none⟩) ∧ b = .pointer (some ⟨g10, 0, none⟩) ∧ c = .bool t.ok ∧ d = .int .i64 t.err ∧ TkD wr U t g9 g10 A' c' Ao' co' Ab' cb' U' wx)
                  case first =>
                    try simp only [Act.put, List.setIfInBounds_toArray, List.set_cons_zero, List.set_cons_succ]
                    refine wp_region_held_drew (S := fun Y => Bxo Y bp 27 (poL q Aq cq) ∧ Below wr.heap.size wr Y) (by kernel_rfl) ?_ (fun hHeld => ?_)
                    · exact ⟨HB.out, below_drew (Below.refl _ _)⟩
                    have zd : wr.drew.heap.size ≤ wr.heap.size := Nat.le_refl _; have zd2 : wr.heap.size ≤ wr.drew.heap.size := Nat.le_refl _
                    have HP := Go.Lib.hid (HP.out.at (below_drew (Below.refl _ _)))
                    have HX := Go.Lib.hid (HX.out.at (below_drew (Below.refl _ _)))
                    have BL : Hid (Below wr.heap.size wr wr.drew) := Go.Lib.hid (below_drew (Below.refl _ _))
                    refine wpAnyH_take (i := 0) (oi := ⟨some 117, _, _, _, _, _⟩) (v := .agg (poL q Aq cq).toArray) rfl (by kernel_rfl) (by kernel_rfl) (by kernel_rfl) (fun _ _ _ h => h) (yieldsIf_load_at (by rfl) 27 _ rfl ⟨bp, 0, none⟩ rfl (poL q Aq cq) _ (fun Y h => h.1.at) Try.underlying27 rfl info_po) (by assumption) ?_
                    try simp only [Act.put, List.setIfInBounds_toArray, List.set_cons_zero, List.set_cons_succ]
                    refine wpAnyH_take (i := 1) (oi := ⟨some 118, _, _, _, _, _⟩) (v := ?_) rfl (by kernel_rfl) (by kernel_rfl) (by kernel_rfl) (fun _ _ _ h => h) (Or.inl ⟨by rfl, ?_⟩) (by assumption) ?_
                    rotate_left
                    · intro w hSw; (try dsimp only at hSw); go_simp; (try with_reducible rfl)
                    try simp only [Act.put, List.setIfInBounds_toArray, List.set_cons_zero, List.set_cons_succ]
                    refine wpAnyH_take (i := 2) (oi := ⟨some 119, _, _, _, _, _⟩) (v := ?_) rfl (by kernel_rfl) (by kernel_rfl) (by kernel_rfl) (fun _ _ _ h => h) (Or.inl ⟨by rfl, ?_⟩) (by assumption) ?_
                    rotate_left
                    · intro w hSw; (try dsimp only at hSw); go_simp; (try with_reducible rfl)
                    try simp only [Act.put, List.setIfInBounds_toArray, List.set_cons_zero, List.set_cons_succ]
                    refine wpAnyH_take (i := 3) (oi := ⟨some 120, _, _, _, _, _⟩) (v := ?_) rfl (by kernel_rfl) (by kernel_rfl) (by kernel_rfl) (fun _ _ _ h => h) (Or.inl ⟨by rfl, ?_⟩) (by assumption) ?_
                    rotate_left
                    · intro w hSw; (try dsimp only at hSw); go_simp; (try with_reducible rfl)
                    try simp only [Act.put, List.setIfInBounds_toArray, List.set_cons_zero, List.set_cons_succ]
                    refine wpAnyH_take (i := 4) (oi := ⟨some 121, _, _, _, _, _⟩) (v := ipV e.p e.Ao e.co e.Ab e.cb) rfl (by kernel_rfl) (by kernel_rfl) (by kernel_rfl) (fun _ _ _ h => h) (yieldsIf_pk (by rfl) _ rfl (ad3.add (k * 11)) rfl e.p e.Ao e.co e.Ab e.cb (fun Y h => HXC.out Y h.2)) (by assumption) ?_
                    try simp only [Act.put, List.setIfInBounds_toArray, List.set_cons_zero, List.set_cons_succ]
                    refine wpAnyH_ready (rs := [5, 11, 12]) (by kernel_rfl) (by simp) (AllReadyH.cons (o := ⟨some 122, _, _, _, _, _⟩) rfl (fun Kc hKc => ?_) (AllReadyH.cons (o := ⟨some 17, _, _, _, _, _⟩) rfl (fun Kc hKc => ?_) (AllReadyH.cons (o := ⟨some 18, _, _, _, _, _⟩) rfl (fun Kc hKc => ?_) AllReadyH.nil)))
                    ·
                      go_simp
                      go_at_call 8; refine (ctake q Aq cq e.p e.Ao e.co e.Ab e.cb _ _ t HTK.out HP.out HX.out HRT.out xo xb).mono ?_; rintro e7 w7 ⟨A7, c7, Ao7, co7, Ab7, cb7, rfl, hq, hk, y7⟩; have HQ := Go.Lib.hid hq; have HK := Go.Lib.hid hk; clear hq hk; have z7 := y7.size; dsimp only
                      have BL := Go.Lib.hid (BL.out.trans (y7.mono (by omega)))
                      refine hKc.out _ _ (⟨hHeld.1.keep y7 hHeld.1.lt, BL.out⟩) (fun hHeld => ?_)
                      clear hKc Kc
                      try simp only [Act.put, List.setIfInBounds_toArray, List.set_cons_zero, List.set_cons_succ]
                      refine wpAnyH_take (i := 6) (oi := ⟨some 116, _, _, _, _, _⟩) (v := ?_) rfl (by kernel_rfl) (by kernel_rfl) (by kernel_rfl) (fun _ _ _ h => h) (Or.inl ⟨by rfl, ?_⟩) (by assumption) ?_
                      rotate_left
                      · intro w hSw; (try dsimp only at hSw); go_simp; (try with_reducible rfl)
                      try simp only [Act.put, List.setIfInBounds_toArray, List.set_cons_zero, List.set_cons_succ]
                      refine wpAnyH_take (i := 7) (oi := ⟨some 123, _, _, _, _, _⟩) (v := ?_) rfl (by kernel_rfl) (by kernel_rfl) (by kernel_rfl) (fun _ _ _ h => h) (Or.inl ⟨by rfl, ?_⟩) (by assumption) ?_
                      rotate_left
                      · intro w hSw; (try dsimp only at hSw); go_simp; (try with_reducible rfl)
                      try simp only [Act.put, List.setIfInBounds_toArray, List.set_cons_zero, List.set_cons_succ]
                      refine wpAnyH_take (i := 8) (oi := ⟨some 124, _, _, _, _, _⟩) (v := ?_) rfl (by kernel_rfl) (by kernel_rfl) (by kernel_rfl) (fun _ _ _ h => h) (Or.inl ⟨by rfl, ?_⟩) (by assumption) ?_
                      rotate_left
                      · intro w hSw; (try dsimp only at hSw); go_simp; (try with_reducible rfl)
                      try simp only [Act.put, List.setIfInBounds_toArray, List.set_cons_zero, List.set_cons_succ]
                      refine wpAnyH_take (i := 9) (oi := ⟨some 125, _, _, _, _, _⟩) (v := ?_) rfl (by kernel_rfl) (by kernel_rfl) (by kernel_rfl) (fun _ _ _ h => h) (Or.inl ⟨by rfl, ?_⟩) (by assumption) ?_
                      rotate_left
                      · intro w hSw; (try dsimp only at hSw); go_simp; (try with_reducible rfl)
                      try simp only [Act.put, List.setIfInBounds_toArray, List.set_cons_zero, List.set_cons_succ]
                      refine wpAnyH_take (i := 10) (oi := ⟨some 126, _, _, _, _, _⟩) (v := ?_) rfl (by kernel_rfl) (by kernel_rfl) (by kernel_rfl) (fun _ _ _ h => h) (Or.inl ⟨by rfl, ?_⟩) (by assumption) ?_
                      rotate_left
                      · intro w hSw; (try dsimp only at hSw); go_simp; (try with_reducible rfl)
                      try simp only [Act.put, List.setIfInBounds_toArray, List.set_cons_zero, List.set_cons_succ]
                      refine wpAnyH_ready (rs := [11, 12]) (by kernel_rfl) (by simp) (AllReadyH.cons (o := ⟨some 17, _, _, _, _, _⟩) rfl (fun Kc hKc => ?_) (AllReadyH.cons (o := ⟨some 18, _, _, _, _, _⟩) rfl (fun Kc hKc => ?_) AllReadyH.nil))
                      ·
                        rw [if_pos (by rfl)]
                        refine step_alloc 27 rfl (poL po0 none 0) info_zpo ?_; intro g9 w9 e9 hb9 y9 z9
                        have HQ := Go.Lib.hid (HQ.out.at y9)
                        have HK := Go.Lib.hid (HK.out.at y9)
                        have BL := Go.Lib.hid (BL.out.trans (y9.mono (by omega)))
                        have F9 := Go.Lib.hid hb9; clear hb9
                        refine hKc.out _ _ (⟨hHeld.1.keep y9 hHeld.1.lt, BL.out⟩) (fun hHeld => ?_)
                        clear hKc Kc
                        try simp only [Act.put, List.setIfInBounds_toArray, List.set_cons_zero, List.set_cons_succ]
                        refine wpAnyH_ready (rs := [12]) (by kernel_rfl) (by simp) (AllReadyH.cons (o := ⟨some 18, _, _, _, _, _⟩) rfl (fun Kc hKc => ?_) AllReadyH.nil)
                        rw [if_pos (by rfl)]
                        refine step_alloc 33 rfl (pkL pk0 none 0 none 0) info_zpk ?_; intro g10 w10 e10 hb10 y10 z10
                        have HQ := Go.Lib.hid (HQ.out.at y10)
                        have HK := Go.Lib.hid (HK.out.at y10)
                        have F9 := Go.Lib.hid (F9.out.keep y10 F9.out.lt)
                        have BL := Go.Lib.hid (BL.out.trans (y10.mono (by omega)))
                        have F10 := Go.Lib.hid hb10; clear hb10
                        refine hKc.out _ _ (⟨hHeld.1.keep y10 hHeld.1.lt, BL.out⟩) (fun hHeld => ?_)
                        clear hKc Kc
                        try simp only [Act.put, List.setIfInBounds_toArray, List.set_cons_zero, List.set_cons_succ]
                        refine wpAnyH_ready (rs := [13]) (by kernel_rfl) (by simp) (AllReadyH.cons (o := ⟨none, _, _, _, _, _⟩) rfl (fun Kc hKc => ?_) AllReadyH.nil)
                        have HN9 : Hid (¬ growV U wr.drew w7 g9) := Go.Lib.hid (fun h => h.elim (fun k => by have := HUlt.out _ k; omega) (fun k => by omega))
                        have HN10 : Hid (¬ growV U wr.drew w7 g10) := Go.Lib.hid (fun h => h.elim (fun k => by have := HUlt.out _ k; omega) (fun k => by omega))
                        rw [if_pos (by rfl)]
                        refine step_store_whole 27 _ _ rfl g9 _ (poL t.pool A7 c7) rfl rfl F9.out info_po rfl (by simp [Value.oneCell']) ?_; intro v9 hb9 ho9; have F9 := Go.Lib.hid hb9; clear hb9; have zv9 := Nat.le_of_eq ho9.size; have zu9 := Nat.le_of_eq ho9.size.symm
                        have F10 := Go.Lib.hid (F10.out.only ho9 (by omega))
                        have HQ := Go.Lib.hid (HQ.out.only ho9 HN9.out); have HK := Go.Lib.hid (HK.out.only ho9 HN9.out)
                        have BL := Go.Lib.hid (BL.out.trans (ho9.below (by omega)))
                        refine hKc.out _ _ (⟨hHeld.1.only ho9 (by omega), BL.out⟩) (fun hHeld => ?_)
                        clear hKc Kc
                        try simp only [Act.put, List.setIfInBounds_toArray, List.set_cons_zero, List.set_cons_succ]
                        refine wpAnyH_ready (rs := [14]) (by kernel_rfl) (by simp) (AllReadyH.cons (o := ⟨none, _, _, _, _, _⟩) rfl (fun Kc hKc => ?_) AllReadyH.nil)
                        rw [if_pos (by rfl)]
                        refine step_store_whole 33 _ _ rfl g10 _ (pkL t.out Ao7 co7 Ab7 cb7) rfl rfl F10.out info_pk rfl (by simp [Value.oneCell']) ?_; intro v10 hb10 ho10; have F10 := Go.Lib.hid hb10; clear hb10; have zv10 := Nat.le_of_eq ho10.size; have zu10 := Nat.le_of_eq ho10.size.symm
                        have F9 := Go.Lib.hid (F9.out.only ho10 (by omega))
                        have HQ := Go.Lib.hid (HQ.out.only ho10 HN10.out); have HK := Go.Lib.hid (HK.out.only ho10 HN10.out)
                        have BL := Go.Lib.hid (BL.out.trans (ho10.below (by omega)))
                        refine hKc.out _ _ (⟨hHeld.1.only ho10 (by omega), BL.out⟩) (fun hHeld => ?_)
                        clear hKc Kc
                        try simp only [Act.put, List.setIfInBounds_toArray, List.set_cons_zero, List.set_cons_succ]
                        refine wpAnyH_take (i := 15) (oi := ⟨some 19, _, _, _, _, _⟩) (v := ?_) rfl (by kernel_rfl) (by kernel_rfl) (by kernel_rfl) (fun _ _ _ h => h) (Or.inl ⟨by rfl, ?_⟩) (by assumption) ?_
                        rotate_left
                        · intro w hSw; (try dsimp only at hSw); go_simp; (try with_reducible rfl)
                        try simp only [Act.put, List.setIfInBounds_toArray, List.set_cons_zero, List.set_cons_succ]
                        refine wpAnyH_take (i := 16) (oi := ⟨some 20, _, _, _, _, _⟩) (v := ?_) rfl (by kernel_rfl) (by kernel_rfl) (by kernel_rfl) (fun _ _ _ h => h) (Or.inl ⟨by rfl, ?_⟩) (by assumption) ?_
                        rotate_left
                        · intro w hSw; (try dsimp only at hSw); go_simp; (try with_reducible rfl)
                        try simp only [Act.put, List.setIfInBounds_toArray, List.set_cons_zero, List.set_cons_succ]
                        refine wpAnyH_done (by kernel_rfl) ?_ _
                        go_wp2_with fail
                        go_meet
                        exact ⟨g9, g10, A7, c7, Ao7, co7, Ab7, cb7, _, rfl, rfl, rfl, rfl, ⟨BL.out, F9.out, F10.out, HQ.out, HK.out, by omega, by omega, by omega, HN9.out, HN10.out, fun b hb => hb.elim .inl (fun k => .inr (by omega))⟩⟩
                      ·
                        rw [if_pos (by rfl)]
                        refine step_alloc 33 rfl (pkL pk0 none 0 none 0) info_zpk ?_; intro g10 w10 e10 hb10 y10 z10
                        have HQ := Go.Lib.hid (HQ.out.at y10)
                        have HK := Go.Lib.hid (HK.out.at y10)
                        have BL := Go.Lib.hid (BL.out.trans (y10.mono (by omega)))
                        have F10 := Go.Lib.hid hb10; clear hb10
                        refine hKc.out _ _ (⟨hHeld.1.keep y10 hHeld.1.lt, BL.out⟩) (fun hHeld => ?_)
                        clear hKc Kc
                        try simp only [Act.put, List.setIfInBounds_toArray, List.set_cons_zero, List.set_cons_succ]
                        refine wpAnyH_ready (rs := [11]) (by kernel_rfl) (by simp) (AllReadyH.cons (o := ⟨some 17, _, _, _, _, _⟩) rfl (fun Kc hKc => ?_) AllReadyH.nil)
                        rw [if_pos (by rfl)]
                        refine step_alloc 27 rfl (poL po0 none 0) info_zpo ?_; intro g9 w9 e9 hb9 y9 z9
                        have HQ := Go.Lib.hid (HQ.out.at y9)
                        have HK := Go.Lib.hid (HK.out.at y9)
                        have F10 := Go.Lib.hid (F10.out.keep y9 F10.out.lt)
                        have BL := Go.Lib.hid (BL.out.trans (y9.mono (by omega)))
                        have F9 := Go.Lib.hid hb9; clear hb9
                        refine hKc.out _ _ (⟨hHeld.1.keep y9 hHeld.1.lt, BL.out⟩) (fun hHeld => ?_)
                        clear hKc Kc
                        try simp only [Act.put, List.setIfInBounds_toArray, List.set_cons_zero, List.set_cons_succ]
                        refine wpAnyH_ready (rs := [13]) (by kernel_rfl) (by simp) (AllReadyH.cons (o := ⟨none, _, _, _, _, _⟩) rfl (fun Kc hKc => ?_) AllReadyH.nil)
                        have HN9 : Hid (¬ growV U wr.drew w7 g9) := Go.Lib.hid (fun h => h.elim (fun k => by have := HUlt.out _ k; omega) (fun k => by omega))
                        have HN10 : Hid (¬ growV U wr.drew w7 g10) := Go.Lib.hid (fun h => h.elim (fun k => by have := HUlt.out _ k; omega) (fun k => by omega))
                        rw [if_pos (by rfl)]
                        refine step_store_whole 27 _ _ rfl g9 _ (poL t.pool A7 c7) rfl rfl F9.out info_po rfl (by simp [Value.oneCell']) ?_; intro v9 hb9 ho9; have F9 := Go.Lib.hid hb9; clear hb9; have zv9 := Nat.le_of_eq ho9.size; have zu9 := Nat.le_of_eq ho9.size.symm
                        have F10 := Go.Lib.hid (F10.out.only ho9 (by omega))
                        have HQ := Go.Lib.hid (HQ.out.only ho9 HN9.out); have HK := Go.Lib.hid (HK.out.only ho9 HN9.out)
                        have BL := Go.Lib.hid (BL.out.trans (ho9.below (by omega)))
                        refine hKc.out _ _ (⟨hHeld.1.only ho9 (by omega), BL.out⟩) (fun hHeld => ?_)
                        clear hKc Kc
                        try simp only [Act.put, List.setIfInBounds_toArray, List.set_cons_zero, List.set_cons_succ]
                        refine wpAnyH_ready (rs := [14]) (by kernel_rfl) (by simp) (AllReadyH.cons (o := ⟨none, _, _, _, _, _⟩) rfl (fun Kc hKc => ?_) AllReadyH.nil)
                        rw [if_pos (by rfl)]
                        refine step_store_whole 33 _ _ rfl g10 _ (pkL t.out Ao7 co7 Ab7 cb7) rfl rfl F10.out info_pk rfl (by simp [Value.oneCell']) ?_; intro v10 hb10 ho10; have F10 := Go.Lib.hid hb10; clear hb10; have zv10 := Nat.le_of_eq ho10.size; have zu10 := Nat.le_of_eq ho10.size.symm
                        have F9 := Go.Lib.hid (F9.out.only ho10 (by omega))
                        have HQ := Go.Lib.hid (HQ.out.only ho10 HN10.out); have HK := Go.Lib.hid (HK.out.only ho10 HN10.out)
                        have BL := Go.Lib.hid (BL.out.trans (ho10.below (by omega)))
                        refine hKc.out _ _ (⟨hHeld.1.only ho10 (by omega), BL.out⟩) (fun hHeld => ?_)
                        clear hKc Kc
                        try simp only [Act.put, List.setIfInBounds_toArray, List.set_cons_zero, List.set_cons_succ]
                        refine wpAnyH_take (i := 15) (oi := ⟨some 19, _, _, _, _, _⟩) (v := ?_) rfl (by kernel_rfl) (by kernel_rfl) (by kernel_rfl) (fun _ _ _ h => h) (Or.inl ⟨by rfl, ?_⟩) (by assumption) ?_
                        rotate_left
                        · intro w hSw; (try dsimp only at hSw); go_simp; (try with_reducible rfl)
                        try simp only [Act.put, List.setIfInBounds_toArray, List.set_cons_zero, List.set_cons_succ]
                        refine wpAnyH_take (i := 16) (oi := ⟨some 20, _, _, _, _, _⟩) (v := ?_) rfl (by kernel_rfl) (by kernel_rfl) (by kernel_rfl) (fun _ _ _ h => h) (Or.inl ⟨by rfl, ?_⟩) (by assumption) ?_
                        rotate_left
                        · intro w hSw; (try dsimp only at hSw); go_simp; (try with_reducible rfl)
                        try simp only [Act.put, List.setIfInBounds_toArray, List.set_cons_zero, List.set_cons_succ]
                        refine wpAnyH_done (by kernel_rfl) ?_ _
                        go_wp2_with fail
                        go_meet
                        exact ⟨g9, g10, A7, c7, Ao7, co7, Ab7, cb7, _, rfl, rfl, rfl, rfl, ⟨BL.out, F9.out, F10.out, HQ.out, HK.out, by omega, by omega, by omega, HN9.out, HN10.out, fun b hb => hb.elim .inl (fun k => .inr (by omega))⟩⟩
                    ·
                      rw [if_pos (by rfl)]
                      refine step_alloc 27 rfl (poL po0 none 0) info_zpo ?_; intro g9 w9 e9 hb9 y9 z9
                      have HP := Go.Lib.hid (HP.out.at y9)
                      have HX := Go.Lib.hid (HX.out.at y9)
                      have BL := Go.Lib.hid (BL.out.trans (y9.mono (by omega)))
                      have F9 := Go.Lib.hid hb9; clear hb9
                      refine hKc.out _ _ (⟨hHeld.1.keep y9 hHeld.1.lt, BL.out⟩) (fun hHeld => ?_)
                      clear hKc Kc
                      try simp only [Act.put, List.setIfInBounds_toArray, List.set_cons_zero, List.set_cons_succ]
                      refine wpAnyH_ready (rs := [5, 12]) (by kernel_rfl) (by simp) (AllReadyH.cons (o := ⟨some 122, _, _, _, _, _⟩) rfl (fun Kc hKc => ?_) (AllReadyH.cons (o := ⟨some 18, _, _, _, _, _⟩) rfl (fun Kc hKc => ?_) AllReadyH.nil))
                      ·
                        go_simp
                        go_at_call 8; refine (ctake q Aq cq e.p e.Ao e.co e.Ab e.cb _ _ t HTK.out HP.out HX.out HRT.out xo xb).mono ?_; rintro e7 w7 ⟨A7, c7, Ao7, co7, Ab7, cb7, rfl, hq, hk, y7⟩; have HQ := Go.Lib.hid hq; have HK := Go.Lib.hid hk; clear hq hk; have z7 := y7.size; dsimp only
                        have F9 := Go.Lib.hid (F9.out.keep y7 F9.out.lt)
                        have BL := Go.Lib.hid (BL.out.trans (y7.mono (by omega)))
                        refine hKc.out _ _ (⟨hHeld.1.keep y7 hHeld.1.lt, BL.out⟩) (fun hHeld => ?_)
                        clear hKc Kc
                        try simp only [Act.put, List.setIfInBounds_toArray, List.set_cons_zero, List.set_cons_succ]
                        refine wpAnyH_take (i := 6) (oi := ⟨some 116, _, _, _, _, _⟩) (v := ?_) rfl (by kernel_rfl) (by kernel_rfl) (by kernel_rfl) (fun _ _ _ h => h) (Or.inl ⟨by rfl, ?_⟩) (by assumption) ?_
                        rotate_left
                        · intro w hSw; (try dsimp only at hSw); go_simp; (try with_reducible rfl)
                        try simp only [Act.put, List.setIfInBounds_toArray, List.set_cons_zero, List.set_cons_succ]
                        refine wpAnyH_take (i := 7) (oi := ⟨some 123, _, _, _, _, _⟩) (v := ?_) rfl (by kernel_rfl) (by kernel_rfl) (by kernel_rfl) (fun _ _ _ h => h) (Or.inl ⟨by rfl, ?_⟩) (by assumption) ?_
                        rotate_left
                        · intro w hSw; (try dsimp only at hSw); go_simp; (try with_reducible rfl)
                        try simp only [Act.put, List.setIfInBounds_toArray, List.set_cons_zero, List.set_cons_succ]
                        refine wpAnyH_take (i := 8) (oi := ⟨some 124, _, _, _, _, _⟩) (v := ?_) rfl (by kernel_rfl) (by kernel_rfl) (by kernel_rfl) (fun _ _ _ h => h) (Or.inl ⟨by rfl, ?_⟩) (by assumption) ?_
                        rotate_left
                        · intro w hSw; (try dsimp only at hSw); go_simp; (try with_reducible rfl)
                        try simp only [Act.put, List.setIfInBounds_toArray, List.set_cons_zero, List.set_cons_succ]
                        refine wpAnyH_take (i := 9) (oi := ⟨some 125, _, _, _, _, _⟩) (v := ?_) rfl (by kernel_rfl) (by kernel_rfl) (by kernel_rfl) (fun _ _ _ h => h) (Or.inl ⟨by rfl, ?_⟩) (by assumption) ?_
                        rotate_left
                        · intro w hSw; (try dsimp only at hSw); go_simp; (try with_reducible rfl)
                        try simp only [Act.put, List.setIfInBounds_toArray, List.set_cons_zero, List.set_cons_succ]
                        refine wpAnyH_take (i := 10) (oi := ⟨some 126, _, _, _, _, _⟩) (v := ?_) rfl (by kernel_rfl) (by kernel_rfl) (by kernel_rfl) (fun _ _ _ h => h) (Or.inl ⟨by rfl, ?_⟩) (by assumption) ?_
                        rotate_left
                        · intro w hSw; (try dsimp only at hSw); go_simp; (try with_reducible rfl)
                        try simp only [Act.put, List.setIfInBounds_toArray, List.set_cons_zero, List.set_cons_succ]
                        refine wpAnyH_ready (rs := [12]) (by kernel_rfl) (by simp) (AllReadyH.cons (o := ⟨some 18, _, _, _, _, _⟩) rfl (fun Kc hKc => ?_) AllReadyH.nil)
                        rw [if_pos (by rfl)]
                        refine step_alloc 33 rfl (pkL pk0 none 0 none 0) info_zpk ?_; intro g10 w10 e10 hb10 y10 z10
                        have F9 := Go.Lib.hid (F9.out.keep y10 F9.out.lt)
                        have HQ := Go.Lib.hid (HQ.out.at y10)
                        have HK := Go.Lib.hid (HK.out.at y10)
                        have BL := Go.Lib.hid (BL.out.trans (y10.mono (by omega)))
                        have F10 := Go.Lib.hid hb10; clear hb10
                        refine hKc.out _ _ (⟨hHeld.1.keep y10 hHeld.1.lt, BL.out⟩) (fun hHeld => ?_)
                        clear hKc Kc
                        try simp only [Act.put, List.setIfInBounds_toArray, List.set_cons_zero, List.set_cons_succ]
                        refine wpAnyH_ready (rs := [13]) (by kernel_rfl) (by simp) (AllReadyH.cons (o := ⟨none, _, _, _, _, _⟩) rfl (fun Kc hKc => ?_) AllReadyH.nil)
                        have HN9 : Hid (¬ growV U w9 w7 g9) := Go.Lib.hid (fun h => h.elim (fun k => by have := HUlt.out _ k; omega) (fun k => by omega))
                        have HN10 : Hid (¬ growV U w9 w7 g10) := Go.Lib.hid (fun h => h.elim (fun k => by have := HUlt.out _ k; omega) (fun k => by omega))
                        rw [if_pos (by rfl)]
                        refine step_store_whole 27 _ _ rfl g9 _ (poL t.pool A7 c7) rfl rfl F9.out info_po rfl (by simp [Value.oneCell']) ?_; intro v9 hb9 ho9; have F9 := Go.Lib.hid hb9; clear hb9; have zv9 := Nat.le_of_eq ho9.size; have zu9 := Nat.le_of_eq ho9.size.symm
                        have F10 := Go.Lib.hid (F10.out.only ho9 (by omega))
                        have HQ := Go.Lib.hid (HQ.out.only ho9 HN9.out); have HK := Go.Lib.hid (HK.out.only ho9 HN9.out)
                        have BL := Go.Lib.hid (BL.out.trans (ho9.below (by omega)))
                        refine hKc.out _ _ (⟨hHeld.1.only ho9 (by omega), BL.out⟩) (fun hHeld => ?_)
                        clear hKc Kc
                        try simp only [Act.put, List.setIfInBounds_toArray, List.set_cons_zero, List.set_cons_succ]
                        refine wpAnyH_ready (rs := [14]) (by kernel_rfl) (by simp) (AllReadyH.cons (o := ⟨none, _, _, _, _, _⟩) rfl (fun Kc hKc => ?_) AllReadyH.nil)
                        rw [if_pos (by rfl)]
                        refine step_store_whole 33 _ _ rfl g10 _ (pkL t.out Ao7 co7 Ab7 cb7) rfl rfl F10.out info_pk rfl (by simp [Value.oneCell']) ?_; intro v10 hb10 ho10; have F10 := Go.Lib.hid hb10; clear hb10; have zv10 := Nat.le_of_eq ho10.size; have zu10 := Nat.le_of_eq ho10.size.symm
                        have F9 := Go.Lib.hid (F9.out.only ho10 (by omega))
                        have HQ := Go.Lib.hid (HQ.out.only ho10 HN10.out); have HK := Go.Lib.hid (HK.out.only ho10 HN10.out)
                        have BL := Go.Lib.hid (BL.out.trans (ho10.below (by omega)))
                        refine hKc.out _ _ (⟨hHeld.1.only ho10 (by omega), BL.out⟩) (fun hHeld => ?_)
                        clear hKc Kc
                        try simp only [Act.put, List.setIfInBounds_toArray, List.set_cons_zero, List.set_cons_succ]
                        refine wpAnyH_take (i := 15) (oi := ⟨some 19, _, _, _, _, _⟩) (v := ?_) rfl (by kernel_rfl) (by kernel_rfl) (by kernel_rfl) (fun _ _ _ h => h) (Or.inl ⟨by rfl, ?_⟩) (by assumption) ?_
                        rotate_left
                        · intro w hSw; (try dsimp only at hSw); go_simp; (try with_reducible rfl)
                        try simp only [Act.put, List.setIfInBounds_toArray, List.set_cons_zero, List.set_cons_succ]
                        refine wpAnyH_take (i := 16) (oi := ⟨some 20, _, _, _, _, _⟩) (v := ?_) rfl (by kernel_rfl) (by kernel_rfl) (by kernel_rfl) (fun _ _ _ h => h) (Or.inl ⟨by rfl, ?_⟩) (by assumption) ?_
                        rotate_left
                        · intro w hSw; (try dsimp only at hSw); go_simp; (try with_reducible rfl)
                        try simp only [Act.put, List.setIfInBounds_toArray, List.set_cons_zero, List.set_cons_succ]
                        refine wpAnyH_done (by kernel_rfl) ?_ _
                        go_wp2_with fail
                        go_meet
                        exact ⟨g9, g10, A7, c7, Ao7, co7, Ab7, cb7, _, rfl, rfl, rfl, rfl, ⟨BL.out, F9.out, F10.out, HQ.out, HK.out, by omega, by omega, by omega, HN9.out, HN10.out, fun b hb => hb.elim .inl (fun k => .inr (by omega))⟩⟩
                      ·
                        rw [if_pos (by rfl)]
                        refine step_alloc 33 rfl (pkL pk0 none 0 none 0) info_zpk ?_; intro g10 w10 e10 hb10 y10 z10
                        have HP := Go.Lib.hid (HP.out.at y10)
                        have HX := Go.Lib.hid (HX.out.at y10)
                        have F9 := Go.Lib.hid (F9.out.keep y10 F9.out.lt)
                        have BL := Go.Lib.hid (BL.out.trans (y10.mono (by omega)))
                        have F10 := Go.Lib.hid hb10; clear hb10
                        refine hKc.out _ _ (⟨hHeld.1.keep y10 hHeld.1.lt, BL.out⟩) (fun hHeld => ?_)
                        clear hKc Kc
                        try simp only [Act.put, List.setIfInBounds_toArray, List.set_cons_zero, List.set_cons_succ]
                        refine wpAnyH_ready (rs := [5]) (by kernel_rfl) (by simp) (AllReadyH.cons (o := ⟨some 122, _, _, _, _, _⟩) rfl (fun Kc hKc => ?_) AllReadyH.nil)
                        go_simp
                        go_at_call 8; refine (ctake q Aq cq e.p e.Ao e.co e.Ab e.cb _ _ t HTK.out HP.out HX.out HRT.out xo xb).mono ?_; rintro e7 w7 ⟨A7, c7, Ao7, co7, Ab7, cb7, rfl, hq, hk, y7⟩; have HQ := Go.Lib.hid hq; have HK := Go.Lib.hid hk; clear hq hk; have z7 := y7.size; dsimp only
                        have F9 := Go.Lib.hid (F9.out.keep y7 F9.out.lt)
                        have F10 := Go.Lib.hid (F10.out.keep y7 F10.out.lt)
                        have BL := Go.Lib.hid (BL.out.trans (y7.mono (by omega)))
                        refine hKc.out _ _ (⟨hHeld.1.keep y7 hHeld.1.lt, BL.out⟩) (fun hHeld => ?_)
                        clear hKc Kc
                        try simp only [Act.put, List.setIfInBounds_toArray, List.set_cons_zero, List.set_cons_succ]
                        refine wpAnyH_take (i := 6) (oi := ⟨some 116, _, _, _, _, _⟩) (v := ?_) rfl (by kernel_rfl) (by kernel_rfl) (by kernel_rfl) (fun _ _ _ h => h) (Or.inl ⟨by rfl, ?_⟩) (by assumption) ?_
                        rotate_left
                        · intro w hSw; (try dsimp only at hSw); go_simp; (try with_reducible rfl)
                        try simp only [Act.put, List.setIfInBounds_toArray, List.set_cons_zero, List.set_cons_succ]
                        refine wpAnyH_take (i := 7) (oi := ⟨some 123, _, _, _, _, _⟩) (v := ?_) rfl (by kernel_rfl) (by kernel_rfl) (by kernel_rfl) (fun _ _ _ h => h) (Or.inl ⟨by rfl, ?_⟩) (by assumption) ?_
                        rotate_left
                        · intro w hSw; (try dsimp only at hSw); go_simp; (try with_reducible rfl)
                        try simp only [Act.put, List.setIfInBounds_toArray, List.set_cons_zero, List.set_cons_succ]
                        refine wpAnyH_take (i := 8) (oi := ⟨some 124, _, _, _, _, _⟩) (v := ?_) rfl (by kernel_rfl) (by kernel_rfl) (by kernel_rfl) (fun _ _ _ h => h) (Or.inl ⟨by rfl, ?_⟩) (by assumption) ?_
                        rotate_left
                        · intro w hSw; (try dsimp only at hSw); go_simp; (try with_reducible rfl)
                        try simp only [Act.put, List.setIfInBounds_toArray, List.set_cons_zero, List.set_cons_succ]
                        refine wpAnyH_take (i := 9) (oi := ⟨some 125, _, _, _, _, _⟩) (v := ?_) rfl (by kernel_rfl) (by kernel_rfl) (by kernel_rfl) (fun _ _ _ h => h) (Or.inl ⟨by rfl, ?_⟩) (by assumption) ?_
                        rotate_left
                        · intro w hSw; (try dsimp only at hSw); go_simp; (try with_reducible rfl)
                        try simp only [Act.put, List.setIfInBounds_toArray, List.set_cons_zero, List.set_cons_succ]
                        refine wpAnyH_take (i := 10) (oi := ⟨some 126, _, _, _, _, _⟩) (v := ?_) rfl (by kernel_rfl) (by kernel_rfl) (by kernel_rfl) (fun _ _ _ h => h) (Or.inl ⟨by rfl, ?_⟩) (by assumption) ?_
                        rotate_left
                        · intro w hSw; (try dsimp only at hSw); go_simp; (try with_reducible rfl)
                        try simp only [Act.put, List.setIfInBounds_toArray, List.set_cons_zero, List.set_cons_succ]
                        refine wpAnyH_ready (rs := [13]) (by kernel_rfl) (by simp) (AllReadyH.cons (o := ⟨none, _, _, _, _, _⟩) rfl (fun Kc hKc => ?_) AllReadyH.nil)
                        have HN9 : Hid (¬ growV U w10 w7 g9) := Go.Lib.hid (fun h => h.elim (fun k => by have := HUlt.out _ k; omega) (fun k => by omega))
                        have HN10 : Hid (¬ growV U w10 w7 g10) := Go.Lib.hid (fun h => h.elim (fun k => by have := HUlt.out _ k; omega) (fun k => by omega))
                        rw [if_pos (by rfl)]
                        refine step_store_whole 27 _ _ rfl g9 _ (poL t.pool A7 c7) rfl rfl F9.out info_po rfl (by simp [Value.oneCell']) ?_; intro v9 hb9 ho9; have F9 := Go.Lib.hid hb9; clear hb9; have zv9 := Nat.le_of_eq ho9.size; have zu9 := Nat.le_of_eq ho9.size.symm
                        have F10 := Go.Lib.hid (F10.out.only ho9 (by omega))
                        have HQ := Go.Lib.hid (HQ.out.only ho9 HN9.out); have HK := Go.Lib.hid (HK.out.only ho9 HN9.out)
                        have BL := Go.Lib.hid (BL.out.trans (ho9.below (by omega)))
                        refine hKc.out _ _ (⟨hHeld.1.only ho9 (by omega), BL.out⟩) (fun hHeld => ?_)
                        clear hKc Kc
                        try simp only [Act.put, List.setIfInBounds_toArray, List.set_cons_zero, List.set_cons_succ]
                        refine wpAnyH_ready (rs := [14]) (by kernel_rfl) (by simp) (AllReadyH.cons (o := ⟨none, _, _, _, _, _⟩) rfl (fun Kc hKc => ?_) AllReadyH.nil)
                        rw [if_pos (by rfl)]
                        refine step_store_whole 33 _ _ rfl g10 _ (pkL t.out Ao7 co7 Ab7 cb7) rfl rfl F10.out info_pk rfl (by simp [Value.oneCell']) ?_; intro v10 hb10 ho10; have F10 := Go.Lib.hid hb10; clear hb10; have zv10 := Nat.le_of_eq ho10.size; have zu10 := Nat.le_of_eq ho10.size.symm
                        have F9 := Go.Lib.hid (F9.out.only ho10 (by omega))
                        have HQ := Go.Lib.hid (HQ.out.only ho10 HN10.out); have HK := Go.Lib.hid (HK.out.only ho10 HN10.out)
                        have BL := Go.Lib.hid (BL.out.trans (ho10.below (by omega)))
                        refine hKc.out _ _ (⟨hHeld.1.only ho10 (by omega), BL.out⟩) (fun hHeld => ?_)
                        clear hKc Kc
                        try simp only [Act.put, List.setIfInBounds_toArray, List.set_cons_zero, List.set_cons_succ]
                        refine wpAnyH_take (i := 15) (oi := ⟨some 19, _, _, _, _, _⟩) (v := ?_) rfl (by kernel_rfl) (by kernel_rfl) (by kernel_rfl) (fun _ _ _ h => h) (Or.inl ⟨by rfl, ?_⟩) (by assumption) ?_
                        rotate_left
                        · intro w hSw; (try dsimp only at hSw); go_simp; (try with_reducible rfl)
                        try simp only [Act.put, List.setIfInBounds_toArray, List.set_cons_zero, List.set_cons_succ]
                        refine wpAnyH_take (i := 16) (oi := ⟨some 20, _, _, _, _, _⟩) (v := ?_) rfl (by kernel_rfl) (by kernel_rfl) (by kernel_rfl) (fun _ _ _ h => h) (Or.inl ⟨by rfl, ?_⟩) (by assumption) ?_
                        rotate_left
                        · intro w hSw; (try dsimp only at hSw); go_simp; (try with_reducible rfl)
                        try simp only [Act.put, List.setIfInBounds_toArray, List.set_cons_zero, List.set_cons_succ]
                        refine wpAnyH_done (by kernel_rfl) ?_ _
                        go_wp2_with fail
                        go_meet
                        exact ⟨g9, g10, A7, c7, Ao7, co7, Ab7, cb7, _, rfl, rfl, rfl, rfl, ⟨BL.out, F9.out, F10.out, HQ.out, HK.out, by omega, by omega, by omega, HN9.out, HN10.out, fun b hb => hb.elim .inl (fun k => .inr (by omega))⟩⟩
                    ·
                      rw [if_pos (by rfl)]
                      refine step_alloc 33 rfl (pkL pk0 none 0 none 0) info_zpk ?_; intro g10 w10 e10 hb10 y10 z10
                      have HP := Go.Lib.hid (HP.out.at y10)
                      have HX := Go.Lib.hid (HX.out.at y10)
                      have BL := Go.Lib.hid (BL.out.trans (y10.mono (by omega)))
                      have F10 := Go.Lib.hid hb10; clear hb10
                      refine hKc.out _ _ (⟨hHeld.1.keep y10 hHeld.1.lt, BL.out⟩) (fun hHeld => ?_)
                      clear hKc Kc
                      try simp only [Act.put, List.setIfInBounds_toArray, List.set_cons_zero, List.set_cons_succ]
                      refine wpAnyH_ready (rs := [5, 11]) (by kernel_rfl) (by simp) (AllReadyH.cons (o := ⟨some 122, _, _, _, _, _⟩) rfl (fun Kc hKc => ?_) (AllReadyH.cons (o := ⟨some 17, _, _, _, _, _⟩) rfl (fun Kc hKc => ?_) AllReadyH.nil))
                      ·
                        go_simp
                        go_at_call 8; refine (ctake q Aq cq e.p e.Ao e.co e.Ab e.cb _ _ t HTK.out HP.out HX.out HRT.out xo xb).mono ?_; rintro e7 w7 ⟨A7, c7, Ao7, co7, Ab7, cb7, rfl, hq, hk, y7⟩; have HQ := Go.Lib.hid hq; have HK := Go.Lib.hid hk; clear hq hk; have z7 := y7.size; dsimp only
                        have F10 := Go.Lib.hid (F10.out.keep y7 F10.out.lt)
                        have BL := Go.Lib.hid (BL.out.trans (y7.mono (by omega)))
                        refine hKc.out _ _ (⟨hHeld.1.keep y7 hHeld.1.lt, BL.out⟩) (fun hHeld => ?_)
                        clear hKc Kc
                        try simp only [Act.put, List.setIfInBounds_toArray, List.set_cons_zero, List.set_cons_succ]
                        refine wpAnyH_take (i := 6) (oi := ⟨some 116, _, _, _, _, _⟩) (v := ?_) rfl (by kernel_rfl) (by kernel_rfl) (by kernel_rfl) (fun _ _ _ h => h) (Or.inl ⟨by rfl, ?_⟩) (by assumption) ?_
                        rotate_left
                        · intro w hSw; (try dsimp only at hSw); go_simp; (try with_reducible rfl)
                        try simp only [Act.put, List.setIfInBounds_toArray, List.set_cons_zero, List.set_cons_succ]
                        refine wpAnyH_take (i := 7) (oi := ⟨some 123, _, _, _, _, _⟩) (v := ?_) rfl (by kernel_rfl) (by kernel_rfl) (by kernel_rfl) (fun _ _ _ h => h) (Or.inl ⟨by rfl, ?_⟩) (by assumption) ?_
                        rotate_left
                        · intro w hSw; (try dsimp only at hSw); go_simp; (try with_reducible rfl)
                        try simp only [Act.put, List.setIfInBounds_toArray, List.set_cons_zero, List.set_cons_succ]
                        refine wpAnyH_take (i := 8) (oi := ⟨some 124, _, _, _, _, _⟩) (v := ?_) rfl (by kernel_rfl) (by kernel_rfl) (by kernel_rfl) (fun _ _ _ h => h) (Or.inl ⟨by rfl, ?_⟩) (by assumption) ?_
                        rotate_left
                        · intro w hSw; (try dsimp only at hSw); go_simp; (try with_reducible rfl)
                        try simp only [Act.put, List.setIfInBounds_toArray, List.set_cons_zero, List.set_cons_succ]
                        refine wpAnyH_take (i := 9) (oi := ⟨some 125, _, _, _, _, _⟩) (v := ?_) rfl (by kernel_rfl) (by kernel_rfl) (by kernel_rfl) (fun _ _ _ h => h) (Or.inl ⟨by rfl, ?_⟩) (by assumption) ?_
                        rotate_left
                        · intro w hSw; (try dsimp only at hSw); go_simp; (try with_reducible rfl)
                        try simp only [Act.put, List.setIfInBounds_toArray, List.set_cons_zero, List.set_cons_succ]
                        refine wpAnyH_take (i := 10) (oi := ⟨some 126, _, _, _, _, _⟩) (v := ?_) rfl (by kernel_rfl) (by kernel_rfl) (by kernel_rfl) (fun _ _ _ h => h) (Or.inl ⟨by rfl, ?_⟩) (by assumption) ?_
                        rotate_left
                        · intro w hSw; (try dsimp only at hSw); go_simp; (try with_reducible rfl)
                        try simp only [Act.put, List.setIfInBounds_toArray, List.set_cons_zero, List.set_cons_succ]
                        refine wpAnyH_ready (rs := [11]) (by kernel_rfl) (by simp) (AllReadyH.cons (o := ⟨some 17, _, _, _, _, _⟩) rfl (fun Kc hKc => ?_) AllReadyH.nil)
                        rw [if_pos (by rfl)]
                        refine step_alloc 27 rfl (poL po0 none 0) info_zpo ?_; intro g9 w9 e9 hb9 y9 z9
                        have F10 := Go.Lib.hid (F10.out.keep y9 F10.out.lt)
                        have HQ := Go.Lib.hid (HQ.out.at y9)
                        have HK := Go.Lib.hid (HK.out.at y9)
                        have BL := Go.Lib.hid (BL.out.trans (y9.mono (by omega)))
                        have F9 := Go.Lib.hid hb9; clear hb9
                        refine hKc.out _ _ (⟨hHeld.1.keep y9 hHeld.1.lt, BL.out⟩) (fun hHeld => ?_)
                        clear hKc Kc
                        try simp only [Act.put, List.setIfInBounds_toArray, List.set_cons_zero, List.set_cons_succ]
                        refine wpAnyH_ready (rs := [13]) (by kernel_rfl) (by simp) (AllReadyH.cons (o := ⟨none, _, _, _, _, _⟩) rfl (fun Kc hKc => ?_) AllReadyH.nil)
                        have HN9 : Hid (¬ growV U w10 w7 g9) := Go.Lib.hid (fun h => h.elim (fun k => by have := HUlt.out _ k; omega) (fun k => by omega))
                        have HN10 : Hid (¬ growV U w10 w7 g10) := Go.Lib.hid (fun h => h.elim (fun k => by have := HUlt.out _ k; omega) (fun k => by omega))
                        rw [if_pos (by rfl)]
                        refine step_store_whole 27 _ _ rfl g9 _ (poL t.pool A7 c7) rfl rfl F9.out info_po rfl (by simp [Value.oneCell']) ?_; intro v9 hb9 ho9; have F9 := Go.Lib.hid hb9; clear hb9; have zv9 := Nat.le_of_eq ho9.size; have zu9 := Nat.le_of_eq ho9.size.symm
                        have F10 := Go.Lib.hid (F10.out.only ho9 (by omega))
                        have HQ := Go.Lib.hid (HQ.out.only ho9 HN9.out); have HK := Go.Lib.hid (HK.out.only ho9 HN9.out)
                        have BL := Go.Lib.hid (BL.out.trans (ho9.below (by omega)))
                        refine hKc.out _ _ (⟨hHeld.1.only ho9 (by omega), BL.out⟩) (fun hHeld => ?_)
                        clear hKc Kc
                        try simp only [Act.put, List.setIfInBounds_toArray, List.set_cons_zero, List.set_cons_succ]
                        refine wpAnyH_ready (rs := [14]) (by kernel_rfl) (by simp) (AllReadyH.cons (o := ⟨none, _, _, _, _, _⟩) rfl (fun Kc hKc => ?_) AllReadyH.nil)
                        rw [if_pos (by rfl)]
                        refine step_store_whole 33 _ _ rfl g10 _ (pkL t.out Ao7 co7 Ab7 cb7) rfl rfl F10.out info_pk rfl (by simp [Value.oneCell']) ?_; intro v10 hb10 ho10; have F10 := Go.Lib.hid hb10; clear hb10; have zv10 := Nat.le_of_eq ho10.size; have zu10 := Nat.le_of_eq ho10.size.symm
                        have F9 := Go.Lib.hid (F9.out.only ho10 (by omega))
                        have HQ := Go.Lib.hid (HQ.out.only ho10 HN10.out); have HK := Go.Lib.hid (HK.out.only ho10 HN10.out)
                        have BL := Go.Lib.hid (BL.out.trans (ho10.below (by omega)))
                        refine hKc.out _ _ (⟨hHeld.1.only ho10 (by omega), BL.out⟩) (fun hHeld => ?_)
                        clear hKc Kc
                        try simp only [Act.put, List.setIfInBounds_toArray, List.set_cons_zero, List.set_cons_succ]
                        refine wpAnyH_take (i := 15) (oi := ⟨some 19, _, _, _, _, _⟩) (v := ?_) rfl (by kernel_rfl) (by kernel_rfl) (by kernel_rfl) (fun _ _ _ h => h) (Or.inl ⟨by rfl, ?_⟩) (by assumption) ?_
                        rotate_left
                        · intro w hSw; (try dsimp only at hSw); go_simp; (try with_reducible rfl)
                        try simp only [Act.put, List.setIfInBounds_toArray, List.set_cons_zero, List.set_cons_succ]
                        refine wpAnyH_take (i := 16) (oi := ⟨some 20, _, _, _, _, _⟩) (v := ?_) rfl (by kernel_rfl) (by kernel_rfl) (by kernel_rfl) (fun _ _ _ h => h) (Or.inl ⟨by rfl, ?_⟩) (by assumption) ?_
                        rotate_left
                        · intro w hSw; (try dsimp only at hSw); go_simp; (try with_reducible rfl)
                        try simp only [Act.put, List.setIfInBounds_toArray, List.set_cons_zero, List.set_cons_succ]
                        refine wpAnyH_done (by kernel_rfl) ?_ _
                        go_wp2_with fail
                        go_meet
                        exact ⟨g9, g10, A7, c7, Ao7, co7, Ab7, cb7, _, rfl, rfl, rfl, rfl, ⟨BL.out, F9.out, F10.out, HQ.out, HK.out, by omega, by omega, by omega, HN9.out, HN10.out, fun b hb => hb.elim .inl (fun k => .inr (by omega))⟩⟩
                      ·
                        rw [if_pos (by rfl)]
                        refine step_alloc 27 rfl (poL po0 none 0) info_zpo ?_; intro g9 w9 e9 hb9 y9 z9
                        have HP := Go.Lib.hid (HP.out.at y9)
                        have HX := Go.Lib.hid (HX.out.at y9)
                        have F10 := Go.Lib.hid (F10.out.keep y9 F10.out.lt)
                        have BL := Go.Lib.hid (BL.out.trans (y9.mono (by omega)))
                        have F9 := Go.Lib.hid hb9; clear hb9
                        refine hKc.out _ _ (⟨hHeld.1.keep y9 hHeld.1.lt, BL.out⟩) (fun hHeld => ?_)
                        clear hKc Kc
                        try simp only [Act.put, List.setIfInBounds_toArray, List.set_cons_zero, List.set_cons_succ]
                        refine wpAnyH_ready (rs := [5]) (by kernel_rfl) (by simp) (AllReadyH.cons (o := ⟨some 122, _, _, _, _, _⟩) rfl (fun Kc hKc => ?_) AllReadyH.nil)
                        go_simp
                        go_at_call 8; refine (ctake q Aq cq e.p e.Ao e.co e.Ab e.cb _ _ t HTK.out HP.out HX.out HRT.out xo xb).mono ?_; rintro e7 w7 ⟨A7, c7, Ao7, co7, Ab7, cb7, rfl, hq, hk, y7⟩; have HQ := Go.Lib.hid hq; have HK := Go.Lib.hid hk; clear hq hk; have z7 := y7.size; dsimp only
                        have F10 := Go.Lib.hid (F10.out.keep y7 F10.out.lt)
                        have F9 := Go.Lib.hid (F9.out.keep y7 F9.out.lt)
                        have BL := Go.Lib.hid (BL.out.trans (y7.mono (by omega)))
                        refine hKc.out _ _ (⟨hHeld.1.keep y7 hHeld.1.lt, BL.out⟩) (fun hHeld => ?_)
                        clear hKc Kc
                        try simp only [Act.put, List.setIfInBounds_toArray, List.set_cons_zero, List.set_cons_succ]
                        refine wpAnyH_take (i := 6) (oi := ⟨some 116, _, _, _, _, _⟩) (v := ?_) rfl (by kernel_rfl) (by kernel_rfl) (by kernel_rfl) (fun _ _ _ h => h) (Or.inl ⟨by rfl, ?_⟩) (by assumption) ?_
                        rotate_left
                        · intro w hSw; (try dsimp only at hSw); go_simp; (try with_reducible rfl)
                        try simp only [Act.put, List.setIfInBounds_toArray, List.set_cons_zero, List.set_cons_succ]
                        refine wpAnyH_take (i := 7) (oi := ⟨some 123, _, _, _, _, _⟩) (v := ?_) rfl (by kernel_rfl) (by kernel_rfl) (by kernel_rfl) (fun _ _ _ h => h) (Or.inl ⟨by rfl, ?_⟩) (by assumption) ?_
                        rotate_left
                        · intro w hSw; (try dsimp only at hSw); go_simp; (try with_reducible rfl)
                        try simp only [Act.put, List.setIfInBounds_toArray, List.set_cons_zero, List.set_cons_succ]
                        refine wpAnyH_take (i := 8) (oi := ⟨some 124, _, _, _, _, _⟩) (v := ?_) rfl (by kernel_rfl) (by kernel_rfl) (by kernel_rfl) (fun _ _ _ h => h) (Or.inl ⟨by rfl, ?_⟩) (by assumption) ?_
                        rotate_left
                        · intro w hSw; (try dsimp only at hSw); go_simp; (try with_reducible rfl)
                        try simp only [Act.put, List.setIfInBounds_toArray, List.set_cons_zero, List.set_cons_succ]
                        refine wpAnyH_take (i := 9) (oi := ⟨some 125, _, _, _, _, _⟩) (v := ?_) rfl (by kernel_rfl) (by kernel_rfl) (by kernel_rfl) (fun _ _ _ h => h) (Or.inl ⟨by rfl, ?_⟩) (by assumption) ?_
                        rotate_left
                        · intro w hSw; (try dsimp only at hSw); go_simp; (try with_reducible rfl)
                        try simp only [Act.put, List.setIfInBounds_toArray, List.set_cons_zero, List.set_cons_succ]
                        refine wpAnyH_take (i := 10) (oi := ⟨some 126, _, _, _, _, _⟩) (v := ?_) rfl (by kernel_rfl) (by kernel_rfl) (by kernel_rfl) (fun _ _ _ h => h) (Or.inl ⟨by rfl, ?_⟩) (by assumption) ?_
                        rotate_left
                        · intro w hSw; (try dsimp only at hSw); go_simp; (try with_reducible rfl)
                        try simp only [Act.put, List.setIfInBounds_toArray, List.set_cons_zero, List.set_cons_succ]
                        refine wpAnyH_ready (rs := [13]) (by kernel_rfl) (by simp) (AllReadyH.cons (o := ⟨none, _, _, _, _, _⟩) rfl (fun Kc hKc => ?_) AllReadyH.nil)
                        have HN9 : Hid (¬ growV U w9 w7 g9) := Go.Lib.hid (fun h => h.elim (fun k => by have := HUlt.out _ k; omega) (fun k => by omega))
                        have HN10 : Hid (¬ growV U w9 w7 g10) := Go.Lib.hid (fun h => h.elim (fun k => by have := HUlt.out _ k; omega) (fun k => by omega))
                        rw [if_pos (by rfl)]
                        refine step_store_whole 27 _ _ rfl g9 _ (poL t.pool A7 c7) rfl rfl F9.out info_po rfl (by simp [Value.oneCell']) ?_; intro v9 hb9 ho9; have F9 := Go.Lib.hid hb9; clear hb9; have zv9 := Nat.le_of_eq ho9.size; have zu9 := Nat.le_of_eq ho9.size.symm
                        have F10 := Go.Lib.hid (F10.out.only ho9 (by omega))
                        have HQ := Go.Lib.hid (HQ.out.only ho9 HN9.out); have HK := Go.Lib.hid (HK.out.only ho9 HN9.out)
                        have BL := Go.Lib.hid (BL.out.trans (ho9.below (by omega)))
                        refine hKc.out _ _ (⟨hHeld.1.only ho9 (by omega), BL.out⟩) (fun hHeld => ?_)
                        clear hKc Kc
                        try simp only [Act.put, List.setIfInBounds_toArray, List.set_cons_zero, List.set_cons_succ]
                        refine wpAnyH_ready (rs := [14]) (by kernel_rfl) (by simp) (AllReadyH.cons (o := ⟨none, _, _, _, _, _⟩) rfl (fun Kc hKc => ?_) AllReadyH.nil)
                        rw [if_pos (by rfl)]
                        refine step_store_whole 33 _ _ rfl g10 _ (pkL t.out Ao7 co7 Ab7 cb7) rfl rfl F10.out info_pk rfl (by simp [Value.oneCell']) ?_; intro v10 hb10 ho10; have F10 := Go.Lib.hid hb10; clear hb10; have zv10 := Nat.le_of_eq ho10.size; have zu10 := Nat.le_of_eq ho10.size.symm
                        have F9 := Go.Lib.hid (F9.out.only ho10 (by omega))
                        have HQ := Go.Lib.hid (HQ.out.only ho10 HN10.out); have HK := Go.Lib.hid (HK.out.only ho10 HN10.out)
                        have BL := Go.Lib.hid (BL.out.trans (ho10.below (by omega)))
                        refine hKc.out _ _ (⟨hHeld.1.only ho10 (by omega), BL.out⟩) (fun hHeld => ?_)
                        clear hKc Kc
                        try simp only [Act.put, List.setIfInBounds_toArray, List.set_cons_zero, List.set_cons_succ]
                        refine wpAnyH_take (i := 15) (oi := ⟨some 19, _, _, _, _, _⟩) (v := ?_) rfl (by kernel_rfl) (by kernel_rfl) (by kernel_rfl) (fun _ _ _ h => h) (Or.inl ⟨by rfl, ?_⟩) (by assumption) ?_
                        rotate_left
                        · intro w hSw; (try dsimp only at hSw); go_simp; (try with_reducible rfl)
                        try simp only [Act.put, List.setIfInBounds_toArray, List.set_cons_zero, List.set_cons_succ]
                        refine wpAnyH_take (i := 16) (oi := ⟨some 20, _, _, _, _, _⟩) (v := ?_) rfl (by kernel_rfl) (by kernel_rfl) (by kernel_rfl) (fun _ _ _ h => h) (Or.inl ⟨by rfl, ?_⟩) (by assumption) ?_
                        rotate_left
                        · intro w hSw; (try dsimp only at hSw); go_simp; (try with_reducible rfl)
                        try simp only [Act.put, List.setIfInBounds_toArray, List.set_cons_zero, List.set_cons_succ]
                        refine wpAnyH_done (by kernel_rfl) ?_ _
                        go_wp2_with fail
                        go_meet
                        exact ⟨g9, g10, A7, c7, Ao7, co7, Ab7, cb7, _, rfl, rfl, rfl, rfl, ⟨BL.out, F9.out, F10.out, HQ.out, HK.out, by omega, by omega, by omega, HN9.out, HN10.out, fun b hb => hb.elim .inl (fun k => .inr (by omega))⟩⟩
                  case rest =>
                    obtain ⟨g9, g10, A1, c1, Ao1, co1, Ab1, cb1, U1, rfl, rfl, rfl, rfl, hT⟩ := hcut
                    clear HXC HX HP HTK xo xb
                    have HT := Go.Lib.hid hT
                    have HBc := Go.Lib.hid (HB.out.keep hT.bel hbl)
                    have HN1 : Hid (¬ U1 bp) := Go.Lib.hid (fun h => (hT.up bp h).elim HUN.out (fun h => by omega))
                    have l9 := hT.l9
                    have l10 := hT.l10
                    have HRC := Go.Lib.hid (HI.out.row.keep hT.bel)
                    clear hT HUlt HUN HB HRT
                    go_upto_region 31 with (first
                      | (refine wpList_load_box rfl 27 _ rfl g9 rfl (poL t.pool A1 c1) _ HT.out.b9 Try.underlying27 rfl info_po ?_)
                      | (refine wpList_store_whole rfl 27 _ _ rfl bp _ (poL t.pool A1 c1) rfl rfl HBc.out info_po rfl (by simp [Value.oneCell']) ?_; intro w18 hb18 ho18; have HB18 := Go.Lib.hid hb18; clear hb18))
                    have HRW := Go.Lib.hid (HRC.out.only ho18 HI.out.ne)
                    have i3 : (0 : Int) ≤ (k : Int) + 1 := by omega
                    have i4 : (k : Int) + 1 ≤ (es3.length : Int) := by omega
                    have i5 : (k : Int) ≤ (c3 : Int) := by omega
                    have s1 : IntKind.i64.wrap ((k : Int) + 1) = (k : Int) + 1 := IntWalk.i64_in _ (by omega)
                    have HLT : Hid (((es3.take k).flatMap Ep.L).length = k * 11) := Go.Lib.hid (by rw [flatK_len, List.length_take, Nat.min_eq_left (by omega)])
                    have HLD : Hid (((es3.drop (k + 1)).flatMap Ep.L).length = (es3.length - (k + 1)) * 11) := Go.Lib.hid (by rw [flatK_len, List.length_drop])
                    obtain ⟨ad4, hif, had4⟩ := HRW.out.rdIf hk
                    have HAD := Go.Lib.hid had4
                    clear had4
                    obtain ⟨i0, hi, hz0, hz1, hz2⟩ := info_parts info_ipz
                    try simp only [Act.put, List.setIfInBounds_toArray, List.set_cons_zero, List.set_cons_succ]
                    refine wp_region_held_drew (S := fun Y => Below w18.heap.size w18 Y) (by kernel_rfl) ?_ (fun hHeld => ?_)
                    · exact below_drew (Below.refl _ _)
                    refine wpAnyH_take (i := 1) (oi := ⟨some 129, _, _, _, _, _⟩) (v := ?_) rfl (by kernel_rfl) (by kernel_rfl) (by kernel_rfl) (fun _ _ _ h => h) (Or.inl ⟨by rfl, ?_⟩) (by assumption) ?_
                    rotate_left
                    · intro w hSw; (try dsimp only at hSw); go_simp; (try with_reducible rfl)
                    try simp only [Act.put, List.setIfInBounds_toArray, List.set_cons_zero, List.set_cons_succ]
                    refine wpAnyH_take (i := 2) (oi := ⟨some 130, _, _, _, _, _⟩) (v := ?_) rfl (by kernel_rfl) (by kernel_rfl) (by kernel_rfl) (fun _ _ _ h => h) (Or.inl ⟨by rfl, ?_⟩) (by assumption) ?_
                    rotate_left
                    · intro w hSw; (try dsimp only at hSw); go_simp; (try with_reducible rfl)
                    try simp only [Act.put, List.setIfInBounds_toArray, List.set_cons_zero, List.set_cons_succ]
                    refine wpAnyH_take (i := 3) (oi := ⟨some 131, _, _, _, _, _⟩) (v := ?_) rfl (by kernel_rfl) (by kernel_rfl) (by kernel_rfl) (fun _ _ _ h => h) (Or.inl ⟨by rfl, ?_⟩) (by assumption) ?_
                    rotate_left
                    · intro w hSw; (try dsimp only at hSw); go_simp; (try with_reducible rfl)
                    try simp only [Act.put, List.setIfInBounds_toArray, List.set_cons_zero, List.set_cons_succ]
                    refine wpAnyH_take (i := 5) (oi := ⟨some 133, _, _, _, _, _⟩) (v := ?_) rfl (by kernel_rfl) (by kernel_rfl) (by kernel_rfl) (fun _ _ _ h => h) (Or.inl ⟨by rfl, ?_⟩) (by assumption) ?_
                    rotate_left
                    · intro w hSw; (try dsimp only at hSw); go_simp; (try with_reducible rfl)
                    try simp only [Act.put, List.setIfInBounds_toArray, List.set_cons_zero, List.set_cons_succ]
                    refine wpAnyH_take (i := 6) (oi := ⟨some 134, _, _, _, _, _⟩) (v := ?_) rfl (by kernel_rfl) (by kernel_rfl) (by kernel_rfl) (fun _ _ _ h => h) (Or.inl ⟨by rfl, ?_⟩) (by assumption) ?_
                    rotate_left
                    · intro w hSw; (try dsimp only at hSw); go_simp; (try with_reducible rfl)
                    try simp only [Act.put, List.setIfInBounds_toArray, List.set_cons_zero, List.set_cons_succ]
                    refine wpAnyH_take (i := 7) (oi := ⟨some 135, _, _, _, _, _⟩) (v := ?_) rfl (by kernel_rfl) (by kernel_rfl) (by kernel_rfl) (fun _ _ _ h => h) (Or.inl ⟨by rfl, ?_⟩) (by assumption) ?_
                    rotate_left
                    · intro w hSw; (try dsimp only at hSw); go_simp; (try with_reducible rfl)
                    try simp only [Act.put, List.setIfInBounds_toArray, List.set_cons_zero, List.set_cons_succ]
                    refine wpAnyH_take (i := 8) (oi := ⟨some 136, _, _, _, _, _⟩) (v := ?_) rfl (by kernel_rfl) (by kernel_rfl) (by kernel_rfl) (fun _ _ _ h => h) (Or.inl ⟨by rfl, ?_⟩) (by assumption) ?_
                    rotate_left
                    · intro w hSw; (try dsimp only at hSw); go_simp; (try with_reducible rfl)
                    try simp only [Act.put, List.setIfInBounds_toArray, List.set_cons_zero, List.set_cons_succ]
                    refine wpAnyH_ready (rs := [0]) (by kernel_rfl) (by simp) (AllReadyH.cons (o := ⟨some 128, _, _, _, _, _⟩) rfl (fun Kc hKc => ?_) AllReadyH.nil)
                    go_simp
                    have V20 : Hid (World.ownsRow (w18.alloc (.cells #[] 33)).drew w18.heap.size 33 11 (.slice (some ⟨w18.heap.size, 0, none⟩) 0 0) 0 []) := Go.Lib.hid (World.ownsRow_made w18 #[] 0 (Nat.le_refl _) (by unfold maxLen; omega) (by simp)); have y20 : Below w18.heap.size w18 (w18.alloc (.cells #[] 33)).drew := below_drew ((Below.refl _ _).alloc (Nat.le_refl _) _); have HR20 := Go.Lib.hid (HRW.out.keep y20); generalize (w18.alloc (.cells #[] 33)).drew = w20 at *; have z20 := y20.size
                    refine hKc.out _ _ (y20) (fun hHeld => ?_)
                    clear hKc Kc
                    try simp only [Act.put, List.setIfInBounds_toArray, List.set_cons_zero, List.set_cons_succ]
                    refine wpAnyH_ready (rs := [4]) (by kernel_rfl) (by simp) (AllReadyH.cons (o := ⟨some 132, _, _, _, _, _⟩) rfl (fun Kc hKc => ?_) AllReadyH.nil)
                    rw [if_pos (by rfl)]
                    refine step_append_own _ _ 22 rfl w18.heap.size 33 i0 _ 11 104 Try.underlying22 hi hz0 hz1 hz2 rfl (by omega) (.slice (some ⟨w18.heap.size, 0, none⟩) 0 0) 0 [] rfl V20.out ad3 k c3 ((es3.take k).flatMap Ep.L) rfl HLT.out (HR20.out.rdFst k) (ep_one _) (by unfold maxLen; omega) (by omega) z20 ?_; intro v21 w21 ho21 hg21 hat21; obtain ⟨A21, c21, rfl⟩ := own_slice ho21; have y21 := y20.trans (grown_own hg21 (fun g e => by rw [ownBlock_blk] at e; injection e with e; have e : w18.heap.size = g := e; omega) z20); have HO21 := Go.Lib.hid ho21; clear ho21 hg21 hat21; have z21 := y21.size
                    refine hKc.out _ _ (y21) (fun hHeld => ?_)
                    clear hKc Kc
                    try simp only [Act.put, List.setIfInBounds_toArray, List.set_cons_zero, List.set_cons_succ]
                    refine wpAnyH_ready (rs := [9]) (by kernel_rfl) (by simp) (AllReadyH.cons (o := ⟨some 137, _, _, _, _, _⟩) rfl (fun Kc hKc => ?_) AllReadyH.nil)
                    rw [if_pos (by rfl)]
                    (try rw [hif]); refine step_append_own _ _ 22 rfl w18.heap.size 33 i0 _ 11 104 Try.underlying22 hi hz0 hz1 hz2 rfl (by omega) (.slice A21 (0 + k) c21) (0 + k) ([] ++ (es3.take k).flatMap Ep.L) rfl HO21.out ad4 (es3.length - (k + 1)) (c3 - (k + 1)) ((es3.drop (k + 1)).flatMap Ep.L) rfl HLD.out (HAD.out w21 y21) (ep_one _) (by unfold maxLen; omega) (by omega) z21 ?_; intro v22 w22 ho22 hg22 hat22; obtain ⟨A22, c22, rfl⟩ := own_slice ho22; have y22 := y21.trans (grown_own hg22 (fun g e => by rw [ownBlock_blk] at e; rcases own_addr HO21.out with ⟨hn, _⟩ | ⟨g2, hg2, h1, h2⟩; rw [hn] at e; cases e; rw [hg2] at e; injection e with e; have e : g2 = g := e; omega) z21); have HO22 : Hid (OwnK w22 w18.heap.size A22 c22 (es3.take k ++ es3.drop (k + 1))) := Go.Lib.hid (own_rest (by omega) ho22); clear ho22 hg22 hat22
                    refine hKc.out _ _ (y22) (fun hHeld => ?_)
                    clear hKc Kc
                    try simp only [Act.put, List.setIfInBounds_toArray, List.set_cons_zero, List.set_cons_succ]
                    refine wpAnyH_take (i := 10) (oi := ⟨some 7, _, _, _, _, _⟩) (v := ?_) rfl (by kernel_rfl) (by kernel_rfl) (by kernel_rfl) (fun _ _ _ h => h) (Or.inl ⟨by rfl, ?_⟩) (by assumption) ?_
                    rotate_left
                    · intro w hSw; (try dsimp only at hSw); go_simp; (try with_reducible rfl)
                    try simp only [Act.put, List.setIfInBounds_toArray, List.set_cons_zero, List.set_cons_succ]
                    refine wpAnyH_done (by kernel_rfl) ?_ _
                    have hlx : 0 + k + (es3.length - (k + 1)) = (es3.take k ++ es3.drop (k + 1)).length := by have := HLEN.out; omega
                    have hly : k + (es3.length - (k + 1)) = (es3.take k ++ es3.drop (k + 1)).length := by have := HLEN.out; omega
                    (try rw [hlx])
                    rw [hly]
                    clear hlx hly
                    have sw : wr.heap.size ≤ w18.heap.size := by have := HT.out.bel.size; have := ho18.size; omega
                    have HI2 := Go.Lib.hid (HI.out.put HT.out.bel HT.out.po HN1.out ho18 HB18.out y22 HO22.out sw HSUB.out (by have := HLEN.out; omega) HST.out)
                    have HB10 := Go.Lib.hid ((HT.out.b10.only ho18 (show g10 ≠ bp by omega)).keep y22 (by have := HT.out.b10.lt; have := ho18.size; omega))
                    have HPT := Go.Lib.hid ((HT.out.pk.only ho18 HN1.out).at y22)
                    have HPX := Go.Lib.hid (HPK.out.at HI2.out.below)
                    clear hHeld HI HT HN1 HB18 HO22 HSUB HST HBc HRC HRW V20 HR20 HO21 HLT HLD HAD y20 y21 y22 z20 z21 hi hz0 hz1 hz2 ho18 sw hif i1 i2 i3 i4 i5 s1
                    have HLE : Hid ((es3.take k ++ es3.drop (k + 1)).length < es3.length) := Go.Lib.hid (by have := HLEN.out; omega)
                    clear HLEN
                    generalize es3.take k ++ es3.drop (k + 1) = es4 at *
                    have HE0 : (t.err != 0) = false := by rw [HTE.out]; rfl
                    have hle := HLE.out
                    have hfew := HI2.out.few
                    cases hok : t.ok
                    · have h4 : es4 ≠ [] := fun h => by have := HTO.out; rw [hok, h] at this; cases this
                      have h4p : 0 < es4.length := List.length_pos_iff.2 h4
                      have e1 : ((es4.length : Int) == 0) = false := by rw [beq_eq_false_iff_ne]; omega
                      clear h4
                      go_wp2_with fail
                      go_round
                      case rel => exact ⟨A22, c22, es4, U1, t.pool, A1, c1, i + 1, rfl, by go_num, by omega, HI2.out⟩
                      case measure => simp [lenOf]; omega
                    · have h4 : es4 = [] := by have := HTO.out; rw [hok] at this; exact List.isEmpty_iff.1 this.symm
                      have hox := HOUT.out hok
                      rw [hox] at HB10 HPT
                      clear hox
                      subst h4
                      go_wp2_with (first
                        | (refine wpList_load_box rfl 33 _ rfl g10 rfl (pkL x Ao1 co1 Ab1 cb1) _ HB10.out Try.underlying33 rfl info_pk ?_)
                        | (refine wpList_load_box rfl 33 _ rfl w.heap.size rfl (pkL x Ao co (some adb) cb) _ HI2.out.box Try.underlying33 rfl info_pk ?_)
                        | (go_at_call 13; refine (rsameH x Ao1 co1 Ab1 cb1 Ao co (some adb) cb w22 ((mayB_iff x).1 HM.out).h HPX.out.s0 HPX.out.s1 HPX.out.d0 HPX.out.d1 HPT.out.obs HPT.out.o.nil HPT.out.bbs HPX.out.obs HPX.out.o.nil HPX.out.bbs).mono ?_; rintro e w23 ⟨rfl, y23⟩; have HI3 := Go.Lib.hid (HI2.out.step y23); dsimp only))
                      go_round
                      case rel => exact ⟨A22, c22, [], U1, t.pool, A1, c1, i + 1, rfl, by go_num, by simp at hle ⊢; omega, HI3.out⟩
                      case measure => simp [lenOf]; omega
      · go_wp2_with (first
          | (refine wpList_load_box rfl 33 _ rfl w.heap.size rfl (pkL x Ao co Ab cb) _ M3.out Try.underlying33 rfl info_pk ?_)
          | (go_at_call 12; refine (rmay0 x Ao co Ab cb w3).mono ?_; rintro e w4 ⟨rfl, y4⟩; rw [HM.out]; have x4 := x3.trans (y4.mono x3.size); have d10' := (M3.out.keep y4 M3.out.lt).cell 10 rfl; dsimp only))
        go_ret
        exact ⟨rfl, x4⟩
    · go_wp2_with (first
        | (refine wpList_load_box rfl 33 _ rfl w.heap.size rfl (pkL x Ao co Ab cb) _ M3.out Try.underlying33 rfl info_pk ?_)
        | (go_at_call 12; refine (rmay0 x Ao co Ab cb w3).mono ?_; rintro e w4 ⟨rfl, y4⟩; rw [HM.out]; have x4 := x3.trans (y4.mono x3.size); have d10' := (M3.out.keep y4 M3.out.lt).cell 10 rfl; dsimp only))
      go_ret
      exact ⟨rfl, x4⟩
  · have HM : Hid (mayB x = false) := Go.Lib.hid (by simpa using hM)
    clear hM
    go_wp2_with (first
      | (refine wpList_load_box rfl 33 _ rfl w.heap.size rfl (pkL x Ao co Ab cb) _ M3.out Try.underlying33 rfl info_pk ?_)
      | (go_at_call 12; refine (rmay0 x Ao co Ab cb w3).mono ?_; rintro e w4 ⟨rfl, y4⟩; rw [HM.out]; have x4 := x3.trans (y4.mono x3.size); dsimp only))
    go_ret
    exact ⟨rfl, x4⟩
end Go.Proofs.Ythejakbjekjhjaa
