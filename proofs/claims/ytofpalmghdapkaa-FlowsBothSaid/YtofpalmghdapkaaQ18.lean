/- Lemmas, several texts in one. -/
import Derived.Test.YtofpalmghdapkaaQ03
import Derived.Test.YtofpalmghdapkaaQ05
/- FlowsBoth, from the contracts. -/
namespace Go.Proofs.Ytofpalmghdapkaa
open Go.ChangeShapes Go.WideShapes Go.ChangeAt Go.RowKit
set_option linter.unusedVariables false
set_option linter.unusedSimpArgs false

theorem sameTp_ne {a b : Tp} (h : a ≠ b) : sameTp a b = false := by
  cases hs : sameTp a b
  · rfl
  · exact absurd ((sameTp_iff _ _).1 hs) h
set_option maxRecDepth 100000 in
set_option maxHeartbeats 16000000 in
theorem flowsBoth (K : StoreC) (kR0 : RightC9) (room : Int) (L : List Af) (A : Option Addr) (c : Nat) (w : World) (h : AfsAt w L A c) :
    Calls Try.prog 4 #[.int .i64 room, .slice A L.length c] w fun e w' => e = .returned (.bool true) ∧ Below w.heap.size w w' := by
  have HL := Go.Lib.hid h
  have hlc := h.len
  have hcc := h.cap
  have kA := Go.Lib.hid (cawake12 K)
  have kR := Go.Lib.hid kR0
  clear h kR0
  go_enter Try.func4, Try.ntmps4
  by_cases hbig : room > 20
  · have hb : (20 : Int) < room := by omega
    go_wp2_with (first
      | (go_at_call 6; refine (kA.out _).mono ?_; rintro e w1 ⟨rfl, y1⟩; dsimp only))
    go_ret
    exact ⟨rfl, y1⟩
  have hb : ¬ (20 : Int) < room := by omega
  cases hn : newS room with
  | none =>
    have HN := Go.Lib.hid hn
    clear hn
    go_wp2_with (first
      | (go_at_call 6; refine (kA.out _).mono ?_; rintro e w1 ⟨rfl, y1⟩; dsimp only)
      | (go_at_call 7; refine (K.new0 room _ HN.out).mono ?_; rintro e w2 ⟨rfl, y2⟩; dsimp only))
    go_loopw [8] (fun iv wr => iv = .int .i64 0 ∧ wr = w2) (fun iv _ => 300 - (intOf iv).toNat)
    case atStart => exact ⟨rfl, rfl⟩
    case round =>
      obtain ⟨rfl, rfl⟩ := hrel
      by_cases h0 : (0 : Int) < (L.length : Int)
      · go_wp2_with fail
        go_ret
        exact ⟨rfl, y1.trans (y2.mono y1.size)⟩
      · go_wp2_with fail
        go_ret
        exact ⟨rfl, y1.trans (y2.mono y1.size)⟩
  | some s0 =>
    have HN := Go.Lib.hid hn
    obtain ⟨hR0, hlen0, hnow0, _⟩ := RightS.new hn
    clear hn
    go_wp2_with (first
      | (go_at_call 6; refine (kA.out _).mono ?_; rintro e w1 ⟨rfl, y1⟩; dsimp only)
      | (go_at_call 7; refine (K.new1 room _ _ HN.out).mono ?_; rintro e w2 ⟨ad, F, rfl, r2, f2, y2⟩; have H2 := Go.Lib.hid (SrI.made y1 r2 f2 y2); clear r2 f2 y2; dsimp only))
    go_loopw [7, 8] (fun nv iv wr => ∃ (i : Nat) (x : Sr) (F' : Nat → Prop), nv = .int .i64 x.now ∧ iv = .int .i64 i ∧ i ≤ L.length ∧ i ≤ 120 ∧ (x.slots.length : Int) = room ∧ Hid (SrI K w ad x F' wr)) (fun _ iv _ => 300 - (intOf iv).toNat)
    case atStart => exact ⟨0, s0, F, by rw [hnow0], rfl, by omega, by omega, hlen0, H2⟩
    case round =>
      rename World => wo
      obtain ⟨i, x, F1, rfl, rfl, hi1, hi2, hxl, HI⟩ := hrel
      clear H2
      have i0 : (0 : Int) ≤ (i : Int) := by omega
      by_cases hlt : i < L.length
      · by_cases h120 : i < 120
        · have t1 : (i : Int) < (L.length : Int) := by omega
          have t2 : (i : Int) < 120 := by omega
          obtain ⟨bd, rfl, hcell⟩ := HL.out.cell hlt
          obtain ⟨a, ha⟩ : ∃ a, L[i] = a := ⟨_, rfl⟩
          rw [ha] at hcell
          have HNR : Hid (RngFl a.fl ∧ I64 a.num) := Go.Lib.hid (by rw [← ha]; exact HL.out.rng _ (List.getElem_mem hlt))
          have HW := Go.Lib.hid (hcell wo HI.out.below)
          have y3 : Below wo.heap.size wo (wo.alloc (oAf a)) := below_alloc (Below.refl _ _) (Nat.le_refl _) _
          have HI2 := Go.Lib.hid (HI.out.call y3)
          have HB2 : Hid (Bxf F1 wo.heap.size 53 (afL a) (wo.alloc (oAf a))) := Go.Lib.hid ⟨Bxo.made wo 53 (afL a), fun hb => by have := K.lt HI.out.rep _ hb; omega⟩
          clear hcell ha HI y3
          go_upto_region 11 with (refine wpList_load_at rfl 53 _ rfl (bd.add (i * 16)) rfl (afL a) _ HW.out Try.underlying53 rfl info_af ?_)
          have hgg := HB2.out.box.lt
          generalize wo.alloc (oAf a) = W2 at *
          generalize wo.heap.size = ga at *
          obtain ⟨kind, fl, num, at_, no⟩ := a
          have b0 := HB2.out.box.cell 0 rfl
          go_upto_block 2 with fail
          go_cut [7] (fun nv wx => ∃ (X : Sr) (F' : Nat → Prop), nv = .int .i64 X.now ∧ (X.slots.length : Int) = room ∧ Hid (SrI K w ad X F' wx))
          case first =>
            as_aux_lemma =>
              have b1 := HB2.out.box.cell 13 rfl
              have b2 := HB2.out.box.cell 14 rfl
              have b3 := HB2.out.box.cell 15 rfl
              by_cases k0 : kind = 0
              · have tk : (kind == 0) = true := by simpa using k0
                obtain ⟨q, hq⟩ : ∃ q, addS x fl = q := ⟨_, rfl⟩
                have hk := hq ▸ add_keeps x fl
                have HQ := Go.Lib.hid hq
                clear hq k0
                go_wp2_with (first
                  | (refine wpList_load_at rfl 40 _ rfl (⟨ga, 1, none⟩ : Addr) rfl (flL fl) _ HB2.out.box.flow Try.underlying40 rfl info_fl ?_)
                  | (go_at_call 9; refine (K.add HI2.out.rep fl _ HNR.out.1 HQ.out).mono ?_; rintro e w3 ⟨F3, rfl, r3, n3, m3⟩; have HI3 := Go.Lib.hid (HI2.out.turn r3 n3 m3); clear r3 n3 m3; dsimp only))
                go_meet
                exact ⟨q.1, F3, by rw [hk.1], by rw [hk.2]; exact hxl, HI3⟩
              · have tk : (kind == 0) = false := by simpa using k0
                by_cases k1 : kind = 1
                · have tk1 : (kind == 1) = true := by simpa using k1
                  obtain ⟨q, hq⟩ : ∃ q, setF11 x num at_ no = q := ⟨_, rfl⟩
                  have hk := hq ▸ set_keeps x num at_ no
                  have HQ := Go.Lib.hid hq
                  clear hq k0 k1
                  go_wp2_with (first
                    | (go_at_call 14; refine (K.set HI2.out.rep num at_ no _ HNR.out.2 HQ.out).mono ?_; rintro e w3 ⟨F3, rfl, r3, n3, m3⟩; have HI3 := Go.Lib.hid (HI2.out.turn r3 n3 m3); clear r3 n3 m3; dsimp only))
                  go_meet
                  exact ⟨q.1, F3, by rw [hk.1], by rw [hk.2]; exact hxl, HI3⟩
                · have tk1 : (kind == 1) = false := by simpa using k1
                  by_cases k2 : kind = 2
                  · have tk2 : (kind == 2) = true := by simpa using k2
                    obtain ⟨q, hq⟩ : ∃ q, dropF x num = q := ⟨_, rfl⟩
                    have hk := hq ▸ drop_keeps x num
                    have HQ := Go.Lib.hid hq
                    clear hq k0 k1 k2
                    go_wp2_with (first
                      | (go_at_call 12; refine (K.drop HI2.out.rep num _ HNR.out.2 HQ.out).mono ?_; rintro e w3 ⟨F3, rfl, r3, n3, m3⟩; have HI3 := Go.Lib.hid (HI2.out.turn r3 n3 m3); clear r3 n3 m3; dsimp only))
                    go_meet
                    exact ⟨q.1, F3, by rw [hk.1], by rw [hk.2]; exact hxl, HI3⟩
                  · have tk2 : (kind == 2) = false := by simpa using k2
                    obtain ⟨q, hq⟩ : ∃ q, tickF x at_ = q := ⟨_, rfl⟩
                    obtain ⟨hk1, hk2⟩ := hq ▸ tick_keeps x at_
                    have HQ := Go.Lib.hid hq
                    clear hq k0 k1 k2
                    go_upto_region 13 with (first
                      | (go_at_call 13; refine (K.tick HI2.out.rep at_ _ HQ.out).mono ?_; rintro e w3 ⟨F3, A3, c3, rfl, d3, r3, n3, m3⟩; have HI3 := Go.Lib.hid (HI2.out.turn r3 n3 m3); have HB3 := Go.Lib.hid (HB2.out.turn n3 m3); clear r3 n3 m3 d3; dsimp only))
                    have b2 := HB3.out.box.cell 14 rfl
                    rcases hk1 with ⟨e1, e2⟩ | ⟨e1, e2⟩
                    · simp only [e1]
                      go_wp2_with fail
                      go_meet
                      exact ⟨q.1, F3, by rw [e2], by rw [hk2]; exact hxl, HI3⟩
                    · simp only [e1]
                      go_wp2_with fail
                      go_meet
                      exact ⟨q.1, F3, by rw [e2], by rw [hk2]; exact hxl, HI3⟩
          case rest =>
            clear HI2 HB2
            obtain ⟨X, F2, rfl, hXl, HI3⟩ := hcut
            have HR := Go.Lib.hid (K.right HI3.out.rep)
            obtain ⟨l, hl⟩ : ∃ l, allF X.slots = l := ⟨_, rfl⟩
            have HLD := Go.Lib.hid hl
            have hll : (l.length : Int) ≤ room := by rw [← hXl, ← hl]; exact_mod_cast allF_length X.slots
            have hl20 : l.length ≤ 20 := by omega
            have t3 : ¬ room < (l.length : Int) := by omega
            have t4 : ((l.length : Int) != (l.length : Int)) = false := by simp
            have HLN : Hid (((allF X.slots).length : Int) = (l.length : Int)) := Go.Lib.hid (by rw [hl])
            clear hl
            go_wp2_with (first
              | (go_at_call 15; refine (K.all_ HI3.out.rep l HLD.out).mono ?_; rintro e w4 ⟨A4, c4, rfl, hfl, y4⟩; have HI4 := Go.Lib.hid (HI3.out.call y4); have HF4 := Go.Lib.hid hfl; clear hfl; dsimp only)
              | (go_at_call 16; refine (K.len_ HI4.out.rep _ HLN.out).mono ?_; rintro e w5 ⟨rfl, y5⟩; have HI5 := Go.Lib.hid (HI4.out.call y5); have HF5 := Go.Lib.hid (HF4.out.at y5); dsimp only))
            clear HI3 HI4 HF4 y4 y5
            go_loopw [13] (fun kv wr => ∃ k : Nat, kv = .int .i64 k ∧ k ≤ l.length ∧ Hid (SrI K w ad X F2 wr) ∧ Hid (FlsAt wr l A4 c4)) (fun kv _ => 300 - (intOf kv).toNat)
            case atStart => exact ⟨0, rfl, by omega, HI5, HF5⟩
            case round =>
              clear HI5 HF5
              obtain ⟨k, rfl, hk1, HI, HF⟩ := hrel
              have k0 : (0 : Int) ≤ (k : Int) := by omega
              by_cases hkl : k < l.length
              · have t5 : (k : Int) < (l.length : Int) := by omega
                obtain ⟨fd, rfl, hcell⟩ := HF.out.cell hkl
                obtain ⟨si, hs⟩ : ∃ si, slotF X.slots si = some l[k] := by
                  have e := HLD.out
                  subst e
                  exact all_slot hkl
                have hap : ∀ j (hj : j < k), l[j].there ≠ l[k].there ∧ l[j].there ≠ l[k].back ∧ l[j].back ≠ l[k].there ∧ l[j].back ≠ l[k].back := fun j hj => by
                  have e := HLD.out
                  subst e
                  exact all_apart HR.out hkl hj
                have HAP := Go.Lib.hid hap
                obtain ⟨f, hf⟩ : ∃ f, l[k] = f := ⟨_, rfl⟩
                rw [hf] at hs hcell
                have HE := Go.Lib.hid hf
                obtain ⟨fa, fb⟩ := HR.out.findS hs
                obtain ⟨hm, hu⟩ := HR.out.may si f hs
                have HM := Go.Lib.hid ((mayF_iff f).1 hm)
                have HFA := Go.Lib.hid fa
                have HFB := Go.Lib.hid fb
                have HGT : Hid (thereF X (si : Int) = some f) := Go.Lib.hid (by rw [there_nat]; exact hs)
                have HRG := Go.Lib.hid (K.rng HI.out.rep si f hs)
                have HSI : Hid (I64 (si : Int)) := Go.Lib.hid (by have h1 := slot_lt hs; have h2 := HR.out.room; unfold I64; omega)
                have HC := Go.Lib.hid hcell
                clear hcell hs hap hf fa fb hm
                have tu : ¬ f.until_ ≤ X.now := by omega
                have tsi : ((si : Int) != (si : Int)) = false := by simp
                have hca := HC.out _ (Below.refl _ _)
                rename World => wk
                go_upto_region 28 with (first
                  | (refine wpList_load_at rfl 38 _ rfl (fd.add (k * 12)) rfl (tpL f.there) _ (fl_there hca) Try.underlying38 rfl info_tp ?_)
                  | (go_at_call 10; refine (K.find HI.out.rep f.there _ HRG.out.there HFA.out).mono ?_; rintro e w6 ⟨rfl, y6⟩; have HI6 := Go.Lib.hid (HI.out.call y6); have hcb := HC.out _ y6; dsimp only))
                go_upto_region 29 with (first
                  | (refine wpList_load_at rfl 38 _ rfl ((fd.add (k * 12)).add 5) rfl (tpL f.back) _ (fl_back hcb) Try.underlying38 rfl info_tp ?_)
                  | (go_at_call 10; refine (K.find HI6.out.rep f.back _ HRG.out.back HFB.out).mono ?_; rintro e w7 ⟨rfl, y7⟩; have HI7 := Go.Lib.hid (HI6.out.call y7); dsimp only))
                go_upto_region 30 with (first
                  | (go_at_call 11; refine (K.get HI7.out.rep (si : Int) _ HSI.out HGT.out).mono ?_; rintro e w8 ⟨rfl, y8⟩; have HI8 := Go.Lib.hid (HI7.out.call y8); dsimp only))
                have ya : Below w8.heap.size w8 (w8.alloc (oFl f)) := below_alloc (Below.refl _ _) (Nat.le_refl _) _
                have yb : Below wk.heap.size wk w8 := y6.trans ((y7.trans (y8.mono y7.size)).mono y6.size)
                have yk : Hid (Below wk.heap.size wk (w8.alloc (oFl f))) := Go.Lib.hid (yb.trans (ya.mono yb.size))
                have HI9 := Go.Lib.hid (HI8.out.call ya)
                have B8 := Go.Lib.hid (Bxo.made w8 40 (flL f))
                have nev : ∀ W, (binOp .neq 40 (flV f) (flV f)).run Try.prog W = .ok (.bool false) W := fun W => (neFl f f W).trans (by rw [(sameFl_iff f f).2 rfl]; rfl)
                clear ya yb y6 y7 y8 HI8 HI7 HI6 HI hca hcb
                generalize w8.alloc (.cells (flL f).toArray 40) = W8 at *
                generalize w8.heap.size = g8 at *
                have HC8 : Hid (∀ Y, Below W8.heap.size W8 Y → ∀ i v, (flL f)[i]? = some v → Y.cell? ((fd.add (k * 12)).add i) = some v) := Go.Lib.hid (fun Y h => HC.out Y (yk.out.trans (h.mono yk.out.size)))
                as_aux_lemma =>
                  try simp only [Act.put, List.setIfInBounds_toArray, List.set_cons_zero, List.set_cons_succ]
                  refine wp_region_held_drew (S := fun Y => Below W8.heap.size W8 Y) (by kernel_rfl) ?_ (fun hHeld => ?_)
                  · exact below_drew (Below.refl _ _)
                  refine wpAnyH_take (i := 0) (oi := ⟨some 132, _, _, _, _, _⟩) (v := ?_) rfl (by kernel_rfl) (by kernel_rfl) (by kernel_rfl) (fun _ _ _ h => h) (Or.inl ⟨by rfl, ?_⟩) (by assumption) ?_
                  rotate_left
                  · intro w hSw; (try dsimp only at hSw); go_simp; (try with_reducible rfl)
                  try simp only [Act.put, List.setIfInBounds_toArray, List.set_cons_zero, List.set_cons_succ]
                  refine wpAnyH_take (i := 1) (oi := ⟨some 133, _, _, _, _, _⟩) (v := ?_) rfl (by kernel_rfl) (by kernel_rfl) (by kernel_rfl) (fun _ _ _ h => h) (Or.inl ⟨by rfl, ?_⟩) (by assumption) ?_
                  rotate_left
                  · intro w hSw; (try dsimp only at hSw); go_simp; (try with_reducible rfl)
                  try simp only [Act.put, List.setIfInBounds_toArray, List.set_cons_zero, List.set_cons_succ]
                  refine wpAnyH_take (i := 2) (oi := ⟨some 134, _, _, _, _, _⟩) (v := ?_) rfl (by kernel_rfl) (by kernel_rfl) (by kernel_rfl) (fun _ _ _ h => h) (Or.inl ⟨by rfl, ?_⟩) (by assumption) ?_
                  rotate_left
                  · intro w hSw; (try dsimp only at hSw); go_simp; (try with_reducible rfl)
                  try simp only [Act.put, List.setIfInBounds_toArray, List.set_cons_zero, List.set_cons_succ]
                  refine wpAnyH_take (i := 3) (oi := ⟨some 135, _, _, _, _, _⟩) (v := ?_) rfl (by kernel_rfl) (by kernel_rfl) (by kernel_rfl) (fun _ _ _ h => h) (Or.inl ⟨by rfl, ?_⟩) (by assumption) ?_
                  rotate_left
                  · intro w hSw; (try dsimp only at hSw); go_simp; (try with_reducible rfl)
                  try simp only [Act.put, List.setIfInBounds_toArray, List.set_cons_zero, List.set_cons_succ]
                  refine wpAnyH_take (i := 4) (oi := ⟨some 136, _, _, _, _, _⟩) (v := ?_) rfl (by kernel_rfl) (by kernel_rfl) (by kernel_rfl) (fun _ _ _ h => h) (Or.inl ⟨by rfl, ?_⟩) (by assumption) ?_
                  rotate_left
                  · intro w hSw; (try dsimp only at hSw); go_simp; (try with_reducible rfl)
                  try simp only [Act.put, List.setIfInBounds_toArray, List.set_cons_zero, List.set_cons_succ]
                  refine wpAnyH_take (i := 5) (oi := ⟨some 137, _, _, _, _, _⟩) (v := ?_) rfl (by kernel_rfl) (by kernel_rfl) (by kernel_rfl) (fun _ _ _ h => h) (Or.inl ⟨by rfl, ?_⟩) (by assumption) ?_
                  rotate_left
                  · intro w hSw; (try dsimp only at hSw); go_simp; (try with_reducible rfl)
                  try simp only [Act.put, List.setIfInBounds_toArray, List.set_cons_zero, List.set_cons_succ]
                  refine wpAnyH_take (i := 6) (oi := ⟨some 138, _, _, _, _, _⟩) (v := ?_) rfl (by kernel_rfl) (by kernel_rfl) (by kernel_rfl) (fun _ _ _ h => h) (Or.inl ⟨by rfl, ?_⟩) (by assumption) ?_
                  rotate_left
                  · intro w hSw; (try dsimp only at hSw); go_simp; (try with_reducible rfl)
                  try simp only [Act.put, List.setIfInBounds_toArray, List.set_cons_zero, List.set_cons_succ]
                  refine wpAnyH_take (i := 7) (oi := ⟨some 139, _, _, _, _, _⟩) (v := ?_) rfl (by kernel_rfl) (by kernel_rfl) (by kernel_rfl) (fun _ _ _ h => h) (Or.inl ⟨by rfl, ?_⟩) (by assumption) ?_
                  rotate_left
                  · intro w hSw; (try dsimp only at hSw); go_simp; (try with_reducible rfl)
                  try simp only [Act.put, List.setIfInBounds_toArray, List.set_cons_zero, List.set_cons_succ]
                  refine wpAnyH_take (i := 8) (oi := ⟨some 140, _, _, _, _, _⟩) (v := ?_) rfl (by kernel_rfl) (by kernel_rfl) (by kernel_rfl) (fun _ _ _ h => h) (Or.inl ⟨by rfl, ?_⟩) (by assumption) ?_
                  rotate_left
                  · intro w hSw; (try dsimp only at hSw); go_simp; (try with_reducible rfl)
                  try simp only [Act.put, List.setIfInBounds_toArray, List.set_cons_zero, List.set_cons_succ]
                  refine wpAnyH_take (i := 9) (oi := ⟨some 141, _, _, _, _, _⟩) (v := ?_) rfl (by kernel_rfl) (by kernel_rfl) (by kernel_rfl) (fun _ _ _ h => h) (Or.inl ⟨by rfl, ?_⟩) (by assumption) ?_
                  rotate_left
                  · intro w hSw; (try dsimp only at hSw); go_simp; (try with_reducible rfl)
                  try simp only [Act.put, List.setIfInBounds_toArray, List.set_cons_zero, List.set_cons_succ]
                  refine wpAnyH_take (i := 10) (oi := ⟨some 142, _, _, _, _, _⟩) (v := ?_) rfl (by kernel_rfl) (by kernel_rfl) (by kernel_rfl) (fun _ _ _ h => h) (Or.inl ⟨by rfl, ?_⟩) (by assumption) ?_
                  rotate_left
                  · intro w hSw; (try dsimp only at hSw); go_simp; (try with_reducible rfl)
                  try simp only [Act.put, List.setIfInBounds_toArray, List.set_cons_zero, List.set_cons_succ]
                  refine wpAnyH_take (i := 11) (oi := ⟨some 143, _, _, _, _, _⟩) (v := ?_) rfl (by kernel_rfl) (by kernel_rfl) (by kernel_rfl) (fun _ _ _ h => h) (Or.inl ⟨by rfl, ?_⟩) (by assumption) ?_
                  rotate_left
                  · intro w hSw; (try dsimp only at hSw); go_simp; (try with_reducible rfl)
                  try simp only [Act.put, List.setIfInBounds_toArray, List.set_cons_zero, List.set_cons_succ]
                  refine wpAnyH_take (i := 12) (oi := ⟨some 144, _, _, _, _, _⟩) (v := ?_) rfl (by kernel_rfl) (by kernel_rfl) (by kernel_rfl) (fun _ _ _ h => h) (Or.inl ⟨by rfl, ?_⟩) (by assumption) ?_
                  rotate_left
                  · intro w hSw; (try dsimp only at hSw); go_simp; (try with_reducible rfl)
                  try simp only [Act.put, List.setIfInBounds_toArray, List.set_cons_zero, List.set_cons_succ]
                  refine wpAnyH_take (i := 13) (oi := ⟨some 145, _, _, _, _, _⟩) (v := ?_) rfl (by kernel_rfl) (by kernel_rfl) (by kernel_rfl) (fun _ _ _ h => h) (Or.inl ⟨by rfl, ?_⟩) (by assumption) ?_
                  rotate_left
                  · intro w hSw; (try dsimp only at hSw); go_simp; (try with_reducible rfl)
                  try simp only [Act.put, List.setIfInBounds_toArray, List.set_cons_zero, List.set_cons_succ]
                  refine wpAnyH_take (i := 14) (oi := ⟨some 146, _, _, _, _, _⟩) (v := ?_) rfl (by kernel_rfl) (by kernel_rfl) (by kernel_rfl) (fun _ _ _ h => h) (Or.inl ⟨by rfl, ?_⟩) (by assumption) ?_
                  rotate_left
                  · intro w hSw; (try dsimp only at hSw); go_simp; (try with_reducible rfl)
                  try simp only [Act.put, List.setIfInBounds_toArray, List.set_cons_zero, List.set_cons_succ]
                  refine wpAnyH_take (i := 15) (oi := ⟨some 147, _, _, _, _, _⟩) (v := ?_) rfl (by kernel_rfl) (by kernel_rfl) (by kernel_rfl) (fun _ _ _ h => h) (Or.inl ⟨by rfl, ?_⟩) (by assumption) ?_
                  rotate_left
                  · intro w hSw; (try dsimp only at hSw); go_simp; (try with_reducible rfl)
                  try simp only [Act.put, List.setIfInBounds_toArray, List.set_cons_zero, List.set_cons_succ]
                  refine wpAnyH_take (i := 16) (oi := ⟨some 148, _, _, _, _, _⟩) (v := ?_) rfl (by kernel_rfl) (by kernel_rfl) (by kernel_rfl) (fun _ _ _ h => h) (Or.inl ⟨by rfl, ?_⟩) (by assumption) ?_
                  rotate_left
                  · intro w hSw; (try dsimp only at hSw); go_simp; (try with_reducible rfl)
                  try simp only [Act.put, List.setIfInBounds_toArray, List.set_cons_zero, List.set_cons_succ]
                  refine wpAnyH_take (i := 17) (oi := ⟨some 149, _, _, _, _, _⟩) (v := ?_) rfl (by kernel_rfl) (by kernel_rfl) (by kernel_rfl) (fun _ _ _ h => h) (Or.inl ⟨by rfl, ?_⟩) (by assumption) ?_
                  rotate_left
                  · intro w hSw; (try dsimp only at hSw); go_simp; (try with_reducible rfl)
                  try simp only [Act.put, List.setIfInBounds_toArray, List.set_cons_zero, List.set_cons_succ]
                  refine wpAnyH_take (i := 18) (oi := ⟨some 150, _, _, _, _, _⟩) (v := ?_) rfl (by kernel_rfl) (by kernel_rfl) (by kernel_rfl) (fun _ _ _ h => h) (Or.inl ⟨by rfl, ?_⟩) (by assumption) ?_
                  rotate_left
                  · intro w hSw; (try dsimp only at hSw); go_simp; (try with_reducible rfl)
                  try simp only [Act.put, List.setIfInBounds_toArray, List.set_cons_zero, List.set_cons_succ]
                  refine wpAnyH_take (i := 19) (oi := ⟨some 151, _, _, _, _, _⟩) (v := ?_) rfl (by kernel_rfl) (by kernel_rfl) (by kernel_rfl) (fun _ _ _ h => h) (Or.inl ⟨by rfl, ?_⟩) (by assumption) ?_
                  rotate_left
                  · intro w hSw; (try dsimp only at hSw); go_simp; (try with_reducible rfl)
                  try simp only [Act.put, List.setIfInBounds_toArray, List.set_cons_zero, List.set_cons_succ]
                  refine wpAnyH_take (i := 20) (oi := ⟨some 152, _, _, _, _, _⟩) (v := ?_) rfl (by kernel_rfl) (by kernel_rfl) (by kernel_rfl) (fun _ _ _ h => h) (Or.inl ⟨by rfl, ?_⟩) (by assumption) ?_
                  rotate_left
                  · intro w hSw; (try dsimp only at hSw); go_simp; (try with_reducible rfl)
                  try simp only [Act.put, List.setIfInBounds_toArray, List.set_cons_zero, List.set_cons_succ]
                  refine wpAnyH_take (i := 21) (oi := ⟨some 153, _, _, _, _, _⟩) (v := ?_) rfl (by kernel_rfl) (by kernel_rfl) (by kernel_rfl) (fun _ _ _ h => h) (Or.inl ⟨by rfl, ?_⟩) (by assumption) ?_
                  rotate_left
                  · intro w hSw; (try dsimp only at hSw); go_simp; (try with_reducible rfl)
                  try simp only [Act.put, List.setIfInBounds_toArray, List.set_cons_zero, List.set_cons_succ]
                  refine wpAnyH_take (i := 22) (oi := ⟨some 154, _, _, _, _, _⟩) (v := ?_) rfl (by kernel_rfl) (by kernel_rfl) (by kernel_rfl) (fun _ _ _ h => h) (Or.inl ⟨by rfl, ?_⟩) (by assumption) ?_
                  rotate_left
                  · intro w hSw; (try dsimp only at hSw); go_simp; (try with_reducible rfl)
                  try simp only [Act.put, List.setIfInBounds_toArray, List.set_cons_zero, List.set_cons_succ]
                  refine wpAnyH_take (i := 23) (oi := ⟨some 155, _, _, _, _, _⟩) (v := (flV f)) rfl (by kernel_rfl) (by kernel_rfl) (by kernel_rfl) (fun _ _ _ h => h) (yieldsIf_load_at (by rfl) 40 _ rfl (⟨g8, 0, none⟩) rfl (flL f) _ (fun Y h => (B8.out.keep h B8.out.lt).at) Try.underlying40 rfl info_fl) (by assumption) ?_
                  try simp only [Act.put, List.setIfInBounds_toArray, List.set_cons_zero, List.set_cons_succ]
                  refine wpAnyH_take (i := 24) (oi := ⟨some 156, _, _, _, _, _⟩) (v := ?_) rfl (by kernel_rfl) (by kernel_rfl) (by kernel_rfl) (fun _ _ _ h => h) (Or.inl ⟨by rfl, ?_⟩) (by assumption) ?_
                  rotate_left
                  · intro w hSw; (try dsimp only at hSw); go_simp; (try with_reducible rfl)
                  try simp only [Act.put, List.setIfInBounds_toArray, List.set_cons_zero, List.set_cons_succ]
                  refine wpAnyH_take (i := 25) (oi := ⟨some 157, _, _, _, _, _⟩) (v := ?_) rfl (by kernel_rfl) (by kernel_rfl) (by kernel_rfl) (fun _ _ _ h => h) (Or.inl ⟨by rfl, ?_⟩) (by assumption) ?_
                  rotate_left
                  · intro w hSw; (try dsimp only at hSw); go_simp; (try with_reducible rfl)
                  try simp only [Act.put, List.setIfInBounds_toArray, List.set_cons_zero, List.set_cons_succ]
                  refine wpAnyH_take (i := 26) (oi := ⟨some 158, _, _, _, _, _⟩) (v := ?_) rfl (by kernel_rfl) (by kernel_rfl) (by kernel_rfl) (fun _ _ _ h => h) (Or.inl ⟨by rfl, ?_⟩) (by assumption) ?_
                  rotate_left
                  · intro w hSw; (try dsimp only at hSw); go_simp; (try with_reducible rfl)
                  try simp only [Act.put, List.setIfInBounds_toArray, List.set_cons_zero, List.set_cons_succ]
                  refine wpAnyH_take (i := 27) (oi := ⟨some 159, _, _, _, _, _⟩) (v := (flV f)) rfl (by kernel_rfl) (by kernel_rfl) (by kernel_rfl) (fun _ _ _ h => h) (yieldsIf_load_at (by rfl) 40 _ rfl (fd.add (k * 12)) rfl (flL f) _ (fun Y h => HC8.out Y h) Try.underlying40 rfl info_fl) (by assumption) ?_
                  try simp only [Act.put, List.setIfInBounds_toArray, List.set_cons_zero, List.set_cons_succ]
                  refine wpAnyH_take (i := 28) (oi := ⟨some 160, _, _, _, _, _⟩) (v := ?_) rfl (by kernel_rfl) (by kernel_rfl) (by kernel_rfl) (fun _ _ _ h => h) (Or.inl ⟨by rfl, ?_⟩) (by assumption) ?_
                  rotate_left
                  · intro w hSw; (try dsimp only at hSw); go_simp; (try with_reducible rfl)
                  try simp only [Act.put, List.setIfInBounds_toArray, List.set_cons_zero, List.set_cons_succ]
                  refine wpAnyH_take (i := 29) (oi := ⟨some 161, _, _, _, _, _⟩) (v := ?_) rfl (by kernel_rfl) (by kernel_rfl) (by kernel_rfl) (fun _ _ _ h => h) (Or.inl ⟨by rfl, ?_⟩) (by assumption) ?_
                  rotate_left
                  · intro w hSw; (try dsimp only at hSw); go_simp; (try with_reducible rfl)
                  try simp only [Act.put, List.setIfInBounds_toArray, List.set_cons_zero, List.set_cons_succ]
                  refine wpAnyH_take (i := 30) (oi := ⟨some 162, _, _, _, _, _⟩) (v := ?_) rfl (by kernel_rfl) (by kernel_rfl) (by kernel_rfl) (fun _ _ _ h => h) (Or.inl ⟨by rfl, ?_⟩) (by assumption) ?_
                  rotate_left
                  · intro w hSw; (try dsimp only at hSw); go_simp; (try with_reducible rfl)
                  try simp only [Act.put, List.setIfInBounds_toArray, List.set_cons_zero, List.set_cons_succ]
                  refine wpAnyH_take (i := 31) (oi := ⟨some 163, _, _, _, _, _⟩) (v := ?_) rfl (by kernel_rfl) (by kernel_rfl) (by kernel_rfl) (fun _ _ _ h => h) (Or.inl ⟨by rfl, ?_⟩) (by assumption) ?_
                  rotate_left
                  · intro w hSw; (try dsimp only at hSw); go_simp; (try with_reducible rfl)
                  try simp only [Act.put, List.setIfInBounds_toArray, List.set_cons_zero, List.set_cons_succ]
                  refine wpAnyH_take (i := 32) (oi := ⟨some 164, _, _, _, _, _⟩) (v := ?_) rfl (by kernel_rfl) (by kernel_rfl) (by kernel_rfl) (fun _ _ _ h => h) (Or.inl ⟨by rfl, ?_⟩) (by assumption) ?_
                  rotate_left
                  · intro w hSw; (try dsimp only at hSw); go_simp; (try with_reducible rfl)
                  try simp only [Act.put, List.setIfInBounds_toArray, List.set_cons_zero, List.set_cons_succ]
                  refine wpAnyH_take (i := 33) (oi := ⟨some 165, _, _, _, _, _⟩) (v := ?_) rfl (by kernel_rfl) (by kernel_rfl) (by kernel_rfl) (fun _ _ _ h => h) (Or.inl ⟨by rfl, ?_⟩) (by assumption) ?_
                  rotate_left
                  · intro w hSw; (try dsimp only at hSw); go_simp; (try with_reducible rfl)
                  try simp only [Act.put, List.setIfInBounds_toArray, List.set_cons_zero, List.set_cons_succ]
                  refine wpAnyH_take (i := 34) (oi := ⟨some 166, _, _, _, _, _⟩) (v := ?_) rfl (by kernel_rfl) (by kernel_rfl) (by kernel_rfl) (fun _ _ _ h => h) (Or.inl ⟨by rfl, ?_⟩) (by assumption) ?_
                  rotate_left
                  · intro w hSw; (try dsimp only at hSw); go_simp; (try with_reducible rfl)
                  try simp only [Act.put, List.setIfInBounds_toArray, List.set_cons_zero, List.set_cons_succ]
                  refine wpAnyH_take (i := 35) (oi := ⟨some 167, _, _, _, _, _⟩) (v := ?_) rfl (by kernel_rfl) (by kernel_rfl) (by kernel_rfl) (fun _ _ _ h => h) (Or.inl ⟨by rfl, ?_⟩) (by assumption) ?_
                  rotate_left
                  · intro w hSw; have zc := HC8.out _ hSw 10 _ rfl; have zc2 : w.cell? { block := (fd.add (k * 12)).block, off := (fd.add (k * 12)).off + 10 } = some (Value.int IntKind.i64 f.until_) := (by first | exact zc | simpa [Addr.add] using zc); (try dsimp only at hSw); go_simp; (try with_reducible rfl)
                  try simp only [Act.put, List.setIfInBounds_toArray, List.set_cons_zero, List.set_cons_succ]
                  refine wpAnyH_take (i := 36) (oi := ⟨some 168, _, _, _, _, _⟩) (v := ?_) rfl (by kernel_rfl) (by kernel_rfl) (by kernel_rfl) (fun _ _ _ h => h) (Or.inl ⟨by rfl, ?_⟩) (by assumption) ?_
                  rotate_left
                  · intro w hSw; (try dsimp only at hSw); go_simp; (try with_reducible rfl)
                  try simp only [Act.put, List.setIfInBounds_toArray, List.set_cons_zero, List.set_cons_succ]
                  refine wpAnyH_take (i := 37) (oi := ⟨some 169, _, _, _, _, _⟩) (v := ?_) rfl (by kernel_rfl) (by kernel_rfl) (by kernel_rfl) (fun _ _ _ h => h) (Or.inl ⟨by rfl, ?_⟩) (by assumption) ?_
                  rotate_left
                  · intro w hSw; (try dsimp only at hSw); go_simp; (try with_reducible rfl)
                  try simp only [Act.put, List.setIfInBounds_toArray, List.set_cons_zero, List.set_cons_succ]
                  refine wpAnyH_take (i := 38) (oi := ⟨some 170, _, _, _, _, _⟩) (v := ?_) rfl (by kernel_rfl) (by kernel_rfl) (by kernel_rfl) (fun _ _ _ h => h) (Or.inl ⟨by rfl, ?_⟩) (by assumption) ?_
                  rotate_left
                  · intro w hSw; (try dsimp only at hSw); go_simp; (try with_reducible rfl)
                  try simp only [Act.put, List.setIfInBounds_toArray, List.set_cons_zero, List.set_cons_succ]
                  refine wpAnyH_take (i := 39) (oi := ⟨some 171, _, _, _, _, _⟩) (v := ?_) rfl (by kernel_rfl) (by kernel_rfl) (by kernel_rfl) (fun _ _ _ h => h) (Or.inl ⟨by rfl, ?_⟩) (by assumption) ?_
                  rotate_left
                  · intro w hSw; (try dsimp only at hSw); go_simp; (try with_reducible rfl)
                  try simp only [Act.put, List.setIfInBounds_toArray, List.set_cons_zero, List.set_cons_succ]
                  refine wpAnyH_take (i := 40) (oi := ⟨some 172, _, _, _, _, _⟩) (v := ?_) rfl (by kernel_rfl) (by kernel_rfl) (by kernel_rfl) (fun _ _ _ h => h) (Or.inl ⟨by rfl, ?_⟩) (by assumption) ?_
                  rotate_left
                  · intro w hSw; (try dsimp only at hSw); go_simp; (try with_reducible rfl)
                  try simp only [Act.put, List.setIfInBounds_toArray, List.set_cons_zero, List.set_cons_succ]
                  refine wpAnyH_take (i := 41) (oi := ⟨some 173, _, _, _, _, _⟩) (v := ?_) rfl (by kernel_rfl) (by kernel_rfl) (by kernel_rfl) (fun _ _ _ h => h) (Or.inl ⟨by rfl, ?_⟩) (by assumption) ?_
                  rotate_left
                  · intro w hSw; (try dsimp only at hSw); go_simp; (try with_reducible rfl)
                  try simp only [Act.put, List.setIfInBounds_toArray, List.set_cons_zero, List.set_cons_succ]
                  refine wpAnyH_take (i := 42) (oi := ⟨some 174, _, _, _, _, _⟩) (v := ?_) rfl (by kernel_rfl) (by kernel_rfl) (by kernel_rfl) (fun _ _ _ h => h) (Or.inl ⟨by rfl, ?_⟩) (by assumption) ?_
                  rotate_left
                  · intro w hSw; (try dsimp only at hSw); go_simp; (try with_reducible rfl)
                  try simp only [Act.put, List.setIfInBounds_toArray, List.set_cons_zero, List.set_cons_succ]
                  refine wpAnyH_take (i := 43) (oi := ⟨some 175, _, _, _, _, _⟩) (v := ?_) rfl (by kernel_rfl) (by kernel_rfl) (by kernel_rfl) (fun _ _ _ h => h) (Or.inl ⟨by rfl, ?_⟩) (by assumption) ?_
                  rotate_left
                  · intro w hSw; (try dsimp only at hSw); go_simp; (try with_reducible rfl)
                  try simp only [Act.put, List.setIfInBounds_toArray, List.set_cons_zero, List.set_cons_succ]
                  refine wpAnyH_take (i := 44) (oi := ⟨some 176, _, _, _, _, _⟩) (v := (tpV f.there)) rfl (by kernel_rfl) (by kernel_rfl) (by kernel_rfl) (fun _ _ _ h => h) (yieldsIf_load_at (by rfl) 38 _ rfl (fd.add (k * 12)) rfl (tpL f.there) _ (fun Y h => fl_there (HC8.out Y h)) Try.underlying38 rfl info_tp) (by assumption) ?_
                  try simp only [Act.put, List.setIfInBounds_toArray, List.set_cons_zero, List.set_cons_succ]
                  refine wpAnyH_ready (rs := [45]) (by kernel_rfl) (by simp) (AllReadyH.cons (o := ⟨some 177, _, _, _, _, _⟩) rfl (fun Kc hKc => ?_) AllReadyH.nil)
                  go_simp
                  go_at_call 25; refine (kR.out f.there _ true HM.out.1 HRG.out.there).mono ?_; rintro e w9 ⟨rfl, y9⟩; dsimp only
                  refine hKc.out _ _ (hHeld.trans (y9.mono hHeld.size)) (fun hHeld => ?_)
                  clear hKc Kc
                  try simp only [Act.put, List.setIfInBounds_toArray, List.set_cons_zero, List.set_cons_succ]
                  refine wpAnyH_take (i := 46) (oi := ⟨some 178, _, _, _, _, _⟩) (v := ?_) rfl (by kernel_rfl) (by kernel_rfl) (by kernel_rfl) (fun _ _ _ h => h) (Or.inl ⟨by rfl, ?_⟩) (by assumption) ?_
                  rotate_left
                  · intro w hSw; (try dsimp only at hSw); go_simp; (try with_reducible rfl)
                  try simp only [Act.put, List.setIfInBounds_toArray, List.set_cons_zero, List.set_cons_succ]
                  refine wpAnyH_take (i := 47) (oi := ⟨some 179, _, _, _, _, _⟩) (v := ?_) rfl (by kernel_rfl) (by kernel_rfl) (by kernel_rfl) (fun _ _ _ h => h) (Or.inl ⟨by rfl, ?_⟩) (by assumption) ?_
                  rotate_left
                  · intro w hSw; (try dsimp only at hSw); go_simp; (try with_reducible rfl)
                  try simp only [Act.put, List.setIfInBounds_toArray, List.set_cons_zero, List.set_cons_succ]
                  refine wpAnyH_done (by kernel_rfl) ?_ _
                  have yq := hHeld
                  clear hHeld
                  go_wp2
                  rename World => W9
                  have HB9 : Hid (Below W8.heap.size W8 W9) := Go.Lib.hid yq
                  go_loopw [22] (fun jv wr => ∃ j : Nat, jv = .int .i64 j ∧ j ≤ k ∧ Hid (Below W8.heap.size W8 wr)) (fun jv _ => 300 - (intOf jv).toNat)
                  case atStart => exact ⟨0, rfl, by omega, HB9⟩
                  case round =>
                    rename World => wj
                    obtain ⟨j, rfl, hj1, HBJ⟩ := hrel
                    have j0 : (0 : Int) ≤ (j : Int) := by omega
                    by_cases hjk : j < k
                    · have t6 : (j : Int) < (k : Int) := by omega
                      have t7 : (j : Int) < (l.length : Int) := by omega
                      obtain ⟨fe, hfe, hcj⟩ := HF.out.cell (show j < l.length by omega)
                      injection hfe with hfe
                      subst hfe
                      have hap := HAP.out j hjk
                      have he := HE.out
                      rw [he] at hap
                      obtain ⟨fj, hfj⟩ : ∃ fj, l[j] = fj := ⟨_, rfl⟩
                      rw [hfj] at hap hcj
                      obtain ⟨h1, h2, h3, h4⟩ := hap
                      have e1 : ∀ W, (binOp .eql 38 (tpV fj.there) (tpV f.there)).run Try.prog W = .ok (.bool false) W := fun W => (eqTp _ _ W).trans (by rw [sameTp_ne h1])
                      have e2 : ∀ W, (binOp .eql 38 (tpV fj.back) (tpV f.back)).run Try.prog W = .ok (.bool false) W := fun W => (eqTp _ _ W).trans (by rw [sameTp_ne h4])
                      have e3 : ∀ W, (binOp .eql 38 (tpV fj.there) (tpV f.back)).run Try.prog W = .ok (.bool false) W := fun W => (eqTp _ _ W).trans (by rw [sameTp_ne h2])
                      have e4 : ∀ W, (binOp .eql 38 (tpV fj.back) (tpV f.there)).run Try.prog W = .ok (.bool false) W := fun W => (eqTp _ _ W).trans (by rw [sameTp_ne h3])
                      have HJ : Hid (∀ Y, Below wj.heap.size wj Y → ∀ i v, (flL fj)[i]? = some v → Y.cell? ((fd.add (j * 12)).add i) = some v) := Go.Lib.hid (fun Y h => hcj Y (yk.out.trans ((HBJ.out.trans (h.mono HBJ.out.size)).mono yk.out.size)))
                      have HK : Hid (∀ Y, Below wj.heap.size wj Y → ∀ i v, (flL f)[i]? = some v → Y.cell? ((fd.add (k * 12)).add i) = some v) := Go.Lib.hid (fun Y h => HC8.out Y (HBJ.out.trans (h.mono HBJ.out.size)))
                      clear hfj hcj h1 h2 h3 h4 he
                      as_aux_lemma =>
                        go_upto_region 35 with fail
                        try simp only [Act.put, List.setIfInBounds_toArray, List.set_cons_zero, List.set_cons_succ]
                        refine wp_region_held_drew (S := fun Y => Below wj.heap.size wj Y) (by kernel_rfl) ?_ (fun hHeld => ?_)
                        · exact below_drew (Below.refl _ _)
                        refine wpAnyH_take (i := 0) (oi := ⟨some 185, _, _, _, _, _⟩) (v := ?_) rfl (by kernel_rfl) (by kernel_rfl) (by kernel_rfl) (fun _ _ _ h => h) (Or.inl ⟨by rfl, ?_⟩) (by assumption) ?_
                        rotate_left
                        · intro w hSw; (try dsimp only at hSw); go_simp; (try with_reducible rfl)
                        try simp only [Act.put, List.setIfInBounds_toArray, List.set_cons_zero, List.set_cons_succ]
                        refine wpAnyH_take (i := 1) (oi := ⟨some 186, _, _, _, _, _⟩) (v := ?_) rfl (by kernel_rfl) (by kernel_rfl) (by kernel_rfl) (fun _ _ _ h => h) (Or.inl ⟨by rfl, ?_⟩) (by assumption) ?_
                        rotate_left
                        · intro w hSw; (try dsimp only at hSw); go_simp; (try with_reducible rfl)
                        try simp only [Act.put, List.setIfInBounds_toArray, List.set_cons_zero, List.set_cons_succ]
                        refine wpAnyH_take (i := 2) (oi := ⟨some 187, _, _, _, _, _⟩) (v := ?_) rfl (by kernel_rfl) (by kernel_rfl) (by kernel_rfl) (fun _ _ _ h => h) (Or.inl ⟨by rfl, ?_⟩) (by assumption) ?_
                        rotate_left
                        · intro w hSw; (try dsimp only at hSw); go_simp; (try with_reducible rfl)
                        try simp only [Act.put, List.setIfInBounds_toArray, List.set_cons_zero, List.set_cons_succ]
                        refine wpAnyH_take (i := 3) (oi := ⟨some 188, _, _, _, _, _⟩) (v := ?_) rfl (by kernel_rfl) (by kernel_rfl) (by kernel_rfl) (fun _ _ _ h => h) (Or.inl ⟨by rfl, ?_⟩) (by assumption) ?_
                        rotate_left
                        · intro w hSw; (try dsimp only at hSw); go_simp; (try with_reducible rfl)
                        try simp only [Act.put, List.setIfInBounds_toArray, List.set_cons_zero, List.set_cons_succ]
                        refine wpAnyH_take (i := 4) (oi := ⟨some 189, _, _, _, _, _⟩) (v := (tpV fj.there)) rfl (by kernel_rfl) (by kernel_rfl) (by kernel_rfl) (fun _ _ _ h => h) (yieldsIf_load_at (by rfl) 38 _ rfl (fd.add (j * 12)) rfl (tpL fj.there) _ (fun Y h => fl_there (HJ.out Y h)) Try.underlying38 rfl info_tp) (by assumption) ?_
                        try simp only [Act.put, List.setIfInBounds_toArray, List.set_cons_zero, List.set_cons_succ]
                        refine wpAnyH_take (i := 5) (oi := ⟨some 190, _, _, _, _, _⟩) (v := ?_) rfl (by kernel_rfl) (by kernel_rfl) (by kernel_rfl) (fun _ _ _ h => h) (Or.inl ⟨by rfl, ?_⟩) (by assumption) ?_
                        rotate_left
                        · intro w hSw; (try dsimp only at hSw); go_simp; (try with_reducible rfl)
                        try simp only [Act.put, List.setIfInBounds_toArray, List.set_cons_zero, List.set_cons_succ]
                        refine wpAnyH_take (i := 6) (oi := ⟨some 191, _, _, _, _, _⟩) (v := ?_) rfl (by kernel_rfl) (by kernel_rfl) (by kernel_rfl) (fun _ _ _ h => h) (Or.inl ⟨by rfl, ?_⟩) (by assumption) ?_
                        rotate_left
                        · intro w hSw; (try dsimp only at hSw); go_simp; (try with_reducible rfl)
                        try simp only [Act.put, List.setIfInBounds_toArray, List.set_cons_zero, List.set_cons_succ]
                        refine wpAnyH_take (i := 7) (oi := ⟨some 192, _, _, _, _, _⟩) (v := ?_) rfl (by kernel_rfl) (by kernel_rfl) (by kernel_rfl) (fun _ _ _ h => h) (Or.inl ⟨by rfl, ?_⟩) (by assumption) ?_
                        rotate_left
                        · intro w hSw; (try dsimp only at hSw); go_simp; (try with_reducible rfl)
                        try simp only [Act.put, List.setIfInBounds_toArray, List.set_cons_zero, List.set_cons_succ]
                        refine wpAnyH_take (i := 8) (oi := ⟨some 193, _, _, _, _, _⟩) (v := ?_) rfl (by kernel_rfl) (by kernel_rfl) (by kernel_rfl) (fun _ _ _ h => h) (Or.inl ⟨by rfl, ?_⟩) (by assumption) ?_
                        rotate_left
                        · intro w hSw; (try dsimp only at hSw); go_simp; (try with_reducible rfl)
                        try simp only [Act.put, List.setIfInBounds_toArray, List.set_cons_zero, List.set_cons_succ]
                        refine wpAnyH_take (i := 9) (oi := ⟨some 194, _, _, _, _, _⟩) (v := (tpV f.there)) rfl (by kernel_rfl) (by kernel_rfl) (by kernel_rfl) (fun _ _ _ h => h) (yieldsIf_load_at (by rfl) 38 _ rfl (fd.add (k * 12)) rfl (tpL f.there) _ (fun Y h => fl_there (HK.out Y h)) Try.underlying38 rfl info_tp) (by assumption) ?_
                        try simp only [Act.put, List.setIfInBounds_toArray, List.set_cons_zero, List.set_cons_succ]
                        refine wpAnyH_take (i := 10) (oi := ⟨some 195, _, _, _, _, _⟩) (v := ?_) rfl (by kernel_rfl) (by kernel_rfl) (by kernel_rfl) (fun _ _ _ h => h) (Or.inl ⟨by rfl, ?_⟩) (by assumption) ?_
                        rotate_left
                        · intro w hSw; (try dsimp only at hSw); go_simp; (try with_reducible rfl)
                        try simp only [Act.put, List.setIfInBounds_toArray, List.set_cons_zero, List.set_cons_succ]
                        refine wpAnyH_take (i := 11) (oi := ⟨some 196, _, _, _, _, _⟩) (v := ?_) rfl (by kernel_rfl) (by kernel_rfl) (by kernel_rfl) (fun _ _ _ h => h) (Or.inl ⟨by rfl, ?_⟩) (by assumption) ?_
                        rotate_left
                        · intro w hSw; (try dsimp only at hSw); go_simp; (try with_reducible rfl)
                        try simp only [Act.put, List.setIfInBounds_toArray, List.set_cons_zero, List.set_cons_succ]
                        refine wpAnyH_take (i := 12) (oi := ⟨some 197, _, _, _, _, _⟩) (v := ?_) rfl (by kernel_rfl) (by kernel_rfl) (by kernel_rfl) (fun _ _ _ h => h) (Or.inl ⟨by rfl, ?_⟩) (by assumption) ?_
                        rotate_left
                        · intro w hSw; (try dsimp only at hSw); go_simp; (try with_reducible rfl)
                        try simp only [Act.put, List.setIfInBounds_toArray, List.set_cons_zero, List.set_cons_succ]
                        refine wpAnyH_take (i := 13) (oi := ⟨some 198, _, _, _, _, _⟩) (v := ?_) rfl (by kernel_rfl) (by kernel_rfl) (by kernel_rfl) (fun _ _ _ h => h) (Or.inl ⟨by rfl, ?_⟩) (by assumption) ?_
                        rotate_left
                        · intro w hSw; (try dsimp only at hSw); go_simp; (try with_reducible rfl)
                        try simp only [Act.put, List.setIfInBounds_toArray, List.set_cons_zero, List.set_cons_succ]
                        refine wpAnyH_take (i := 14) (oi := ⟨some 199, _, _, _, _, _⟩) (v := ?_) rfl (by kernel_rfl) (by kernel_rfl) (by kernel_rfl) (fun _ _ _ h => h) (Or.inl ⟨by rfl, ?_⟩) (by assumption) ?_
                        rotate_left
                        · intro w hSw; (try dsimp only at hSw); go_simp; (try with_reducible rfl)
                        try simp only [Act.put, List.setIfInBounds_toArray, List.set_cons_zero, List.set_cons_succ]
                        refine wpAnyH_take (i := 15) (oi := ⟨some 200, _, _, _, _, _⟩) (v := ?_) rfl (by kernel_rfl) (by kernel_rfl) (by kernel_rfl) (fun _ _ _ h => h) (Or.inl ⟨by rfl, ?_⟩) (by assumption) ?_
                        rotate_left
                        · intro w hSw; (try dsimp only at hSw); go_simp; (try with_reducible rfl)
                        try simp only [Act.put, List.setIfInBounds_toArray, List.set_cons_zero, List.set_cons_succ]
                        refine wpAnyH_take (i := 16) (oi := ⟨some 201, _, _, _, _, _⟩) (v := (tpV fj.back)) rfl (by kernel_rfl) (by kernel_rfl) (by kernel_rfl) (fun _ _ _ h => h) (yieldsIf_load_at (by rfl) 38 _ rfl ((fd.add (j * 12)).add 5) rfl (tpL fj.back) _ (fun Y h => fl_back (HJ.out Y h)) Try.underlying38 rfl info_tp) (by assumption) ?_
                        try simp only [Act.put, List.setIfInBounds_toArray, List.set_cons_zero, List.set_cons_succ]
                        refine wpAnyH_take (i := 17) (oi := ⟨some 202, _, _, _, _, _⟩) (v := ?_) rfl (by kernel_rfl) (by kernel_rfl) (by kernel_rfl) (fun _ _ _ h => h) (Or.inl ⟨by rfl, ?_⟩) (by assumption) ?_
                        rotate_left
                        · intro w hSw; (try dsimp only at hSw); go_simp; (try with_reducible rfl)
                        try simp only [Act.put, List.setIfInBounds_toArray, List.set_cons_zero, List.set_cons_succ]
                        refine wpAnyH_take (i := 18) (oi := ⟨some 203, _, _, _, _, _⟩) (v := ?_) rfl (by kernel_rfl) (by kernel_rfl) (by kernel_rfl) (fun _ _ _ h => h) (Or.inl ⟨by rfl, ?_⟩) (by assumption) ?_
                        rotate_left
                        · intro w hSw; (try dsimp only at hSw); go_simp; (try with_reducible rfl)
                        try simp only [Act.put, List.setIfInBounds_toArray, List.set_cons_zero, List.set_cons_succ]
                        refine wpAnyH_take (i := 19) (oi := ⟨some 204, _, _, _, _, _⟩) (v := ?_) rfl (by kernel_rfl) (by kernel_rfl) (by kernel_rfl) (fun _ _ _ h => h) (Or.inl ⟨by rfl, ?_⟩) (by assumption) ?_
                        rotate_left
                        · intro w hSw; (try dsimp only at hSw); go_simp; (try with_reducible rfl)
                        try simp only [Act.put, List.setIfInBounds_toArray, List.set_cons_zero, List.set_cons_succ]
                        refine wpAnyH_take (i := 20) (oi := ⟨some 205, _, _, _, _, _⟩) (v := ?_) rfl (by kernel_rfl) (by kernel_rfl) (by kernel_rfl) (fun _ _ _ h => h) (Or.inl ⟨by rfl, ?_⟩) (by assumption) ?_
                        rotate_left
                        · intro w hSw; (try dsimp only at hSw); go_simp; (try with_reducible rfl)
                        try simp only [Act.put, List.setIfInBounds_toArray, List.set_cons_zero, List.set_cons_succ]
                        refine wpAnyH_take (i := 21) (oi := ⟨some 206, _, _, _, _, _⟩) (v := (tpV f.back)) rfl (by kernel_rfl) (by kernel_rfl) (by kernel_rfl) (fun _ _ _ h => h) (yieldsIf_load_at (by rfl) 38 _ rfl ((fd.add (k * 12)).add 5) rfl (tpL f.back) _ (fun Y h => fl_back (HK.out Y h)) Try.underlying38 rfl info_tp) (by assumption) ?_
                        try simp only [Act.put, List.setIfInBounds_toArray, List.set_cons_zero, List.set_cons_succ]
                        refine wpAnyH_take (i := 22) (oi := ⟨some 207, _, _, _, _, _⟩) (v := ?_) rfl (by kernel_rfl) (by kernel_rfl) (by kernel_rfl) (fun _ _ _ h => h) (Or.inl ⟨by rfl, ?_⟩) (by assumption) ?_
                        rotate_left
                        · intro w hSw; (try dsimp only at hSw); go_simp; (try with_reducible rfl)
                        try simp only [Act.put, List.setIfInBounds_toArray, List.set_cons_zero, List.set_cons_succ]
                        refine wpAnyH_take (i := 23) (oi := ⟨some 208, _, _, _, _, _⟩) (v := ?_) rfl (by kernel_rfl) (by kernel_rfl) (by kernel_rfl) (fun _ _ _ h => h) (Or.inl ⟨by rfl, ?_⟩) (by assumption) ?_
                        rotate_left
                        · intro w hSw; (try dsimp only at hSw); go_simp; (try with_reducible rfl)
                        try simp only [Act.put, List.setIfInBounds_toArray, List.set_cons_zero, List.set_cons_succ]
                        refine wpAnyH_take (i := 24) (oi := ⟨some 209, _, _, _, _, _⟩) (v := ?_) rfl (by kernel_rfl) (by kernel_rfl) (by kernel_rfl) (fun _ _ _ h => h) (Or.inl ⟨by rfl, ?_⟩) (by assumption) ?_
                        rotate_left
                        · intro w hSw; (try dsimp only at hSw); go_simp; (try with_reducible rfl)
                        try simp only [Act.put, List.setIfInBounds_toArray, List.set_cons_zero, List.set_cons_succ]
                        refine wpAnyH_take (i := 25) (oi := ⟨some 210, _, _, _, _, _⟩) (v := ?_) rfl (by kernel_rfl) (by kernel_rfl) (by kernel_rfl) (fun _ _ _ h => h) (Or.inl ⟨by rfl, ?_⟩) (by assumption) ?_
                        rotate_left
                        · intro w hSw; (try dsimp only at hSw); go_simp; (try with_reducible rfl)
                        try simp only [Act.put, List.setIfInBounds_toArray, List.set_cons_zero, List.set_cons_succ]
                        refine wpAnyH_take (i := 26) (oi := ⟨some 211, _, _, _, _, _⟩) (v := ?_) rfl (by kernel_rfl) (by kernel_rfl) (by kernel_rfl) (fun _ _ _ h => h) (Or.inl ⟨by rfl, ?_⟩) (by assumption) ?_
                        rotate_left
                        · intro w hSw; (try dsimp only at hSw); go_simp; (try with_reducible rfl)
                        try simp only [Act.put, List.setIfInBounds_toArray, List.set_cons_zero, List.set_cons_succ]
                        refine wpAnyH_take (i := 27) (oi := ⟨some 212, _, _, _, _, _⟩) (v := ?_) rfl (by kernel_rfl) (by kernel_rfl) (by kernel_rfl) (fun _ _ _ h => h) (Or.inl ⟨by rfl, ?_⟩) (by assumption) ?_
                        rotate_left
                        · intro w hSw; (try dsimp only at hSw); go_simp; (try with_reducible rfl)
                        try simp only [Act.put, List.setIfInBounds_toArray, List.set_cons_zero, List.set_cons_succ]
                        refine wpAnyH_take (i := 28) (oi := ⟨some 213, _, _, _, _, _⟩) (v := ?_) rfl (by kernel_rfl) (by kernel_rfl) (by kernel_rfl) (fun _ _ _ h => h) (Or.inl ⟨by rfl, ?_⟩) (by assumption) ?_
                        rotate_left
                        · intro w hSw; (try dsimp only at hSw); go_simp; (try with_reducible rfl)
                        try simp only [Act.put, List.setIfInBounds_toArray, List.set_cons_zero, List.set_cons_succ]
                        refine wpAnyH_take (i := 29) (oi := ⟨some 214, _, _, _, _, _⟩) (v := (tpV fj.there)) rfl (by kernel_rfl) (by kernel_rfl) (by kernel_rfl) (fun _ _ _ h => h) (yieldsIf_load_at (by rfl) 38 _ rfl (fd.add (j * 12)) rfl (tpL fj.there) _ (fun Y h => fl_there (HJ.out Y h)) Try.underlying38 rfl info_tp) (by assumption) ?_
                        try simp only [Act.put, List.setIfInBounds_toArray, List.set_cons_zero, List.set_cons_succ]
                        refine wpAnyH_take (i := 30) (oi := ⟨some 215, _, _, _, _, _⟩) (v := ?_) rfl (by kernel_rfl) (by kernel_rfl) (by kernel_rfl) (fun _ _ _ h => h) (Or.inl ⟨by rfl, ?_⟩) (by assumption) ?_
                        rotate_left
                        · intro w hSw; (try dsimp only at hSw); go_simp; (try with_reducible rfl)
                        try simp only [Act.put, List.setIfInBounds_toArray, List.set_cons_zero, List.set_cons_succ]
                        refine wpAnyH_take (i := 31) (oi := ⟨some 216, _, _, _, _, _⟩) (v := ?_) rfl (by kernel_rfl) (by kernel_rfl) (by kernel_rfl) (fun _ _ _ h => h) (Or.inl ⟨by rfl, ?_⟩) (by assumption) ?_
                        rotate_left
                        · intro w hSw; (try dsimp only at hSw); go_simp; (try with_reducible rfl)
                        try simp only [Act.put, List.setIfInBounds_toArray, List.set_cons_zero, List.set_cons_succ]
                        refine wpAnyH_take (i := 32) (oi := ⟨some 217, _, _, _, _, _⟩) (v := ?_) rfl (by kernel_rfl) (by kernel_rfl) (by kernel_rfl) (fun _ _ _ h => h) (Or.inl ⟨by rfl, ?_⟩) (by assumption) ?_
                        rotate_left
                        · intro w hSw; (try dsimp only at hSw); go_simp; (try with_reducible rfl)
                        try simp only [Act.put, List.setIfInBounds_toArray, List.set_cons_zero, List.set_cons_succ]
                        refine wpAnyH_take (i := 33) (oi := ⟨some 218, _, _, _, _, _⟩) (v := ?_) rfl (by kernel_rfl) (by kernel_rfl) (by kernel_rfl) (fun _ _ _ h => h) (Or.inl ⟨by rfl, ?_⟩) (by assumption) ?_
                        rotate_left
                        · intro w hSw; (try dsimp only at hSw); go_simp; (try with_reducible rfl)
                        try simp only [Act.put, List.setIfInBounds_toArray, List.set_cons_zero, List.set_cons_succ]
                        refine wpAnyH_take (i := 34) (oi := ⟨some 219, _, _, _, _, _⟩) (v := (tpV f.back)) rfl (by kernel_rfl) (by kernel_rfl) (by kernel_rfl) (fun _ _ _ h => h) (yieldsIf_load_at (by rfl) 38 _ rfl ((fd.add (k * 12)).add 5) rfl (tpL f.back) _ (fun Y h => fl_back (HK.out Y h)) Try.underlying38 rfl info_tp) (by assumption) ?_
                        try simp only [Act.put, List.setIfInBounds_toArray, List.set_cons_zero, List.set_cons_succ]
                        refine wpAnyH_take (i := 35) (oi := ⟨some 220, _, _, _, _, _⟩) (v := ?_) rfl (by kernel_rfl) (by kernel_rfl) (by kernel_rfl) (fun _ _ _ h => h) (Or.inl ⟨by rfl, ?_⟩) (by assumption) ?_
                        rotate_left
                        · intro w hSw; (try dsimp only at hSw); go_simp; (try with_reducible rfl)
                        try simp only [Act.put, List.setIfInBounds_toArray, List.set_cons_zero, List.set_cons_succ]
                        refine wpAnyH_take (i := 36) (oi := ⟨some 221, _, _, _, _, _⟩) (v := ?_) rfl (by kernel_rfl) (by kernel_rfl) (by kernel_rfl) (fun _ _ _ h => h) (Or.inl ⟨by rfl, ?_⟩) (by assumption) ?_
                        rotate_left
                        · intro w hSw; (try dsimp only at hSw); go_simp; (try with_reducible rfl)
                        try simp only [Act.put, List.setIfInBounds_toArray, List.set_cons_zero, List.set_cons_succ]
                        refine wpAnyH_take (i := 37) (oi := ⟨some 222, _, _, _, _, _⟩) (v := ?_) rfl (by kernel_rfl) (by kernel_rfl) (by kernel_rfl) (fun _ _ _ h => h) (Or.inl ⟨by rfl, ?_⟩) (by assumption) ?_
                        rotate_left
                        · intro w hSw; (try dsimp only at hSw); go_simp; (try with_reducible rfl)
                        try simp only [Act.put, List.setIfInBounds_toArray, List.set_cons_zero, List.set_cons_succ]
                        refine wpAnyH_take (i := 38) (oi := ⟨some 223, _, _, _, _, _⟩) (v := ?_) rfl (by kernel_rfl) (by kernel_rfl) (by kernel_rfl) (fun _ _ _ h => h) (Or.inl ⟨by rfl, ?_⟩) (by assumption) ?_
                        rotate_left
                        · intro w hSw; (try dsimp only at hSw); go_simp; (try with_reducible rfl)
                        try simp only [Act.put, List.setIfInBounds_toArray, List.set_cons_zero, List.set_cons_succ]
                        refine wpAnyH_take (i := 39) (oi := ⟨some 224, _, _, _, _, _⟩) (v := ?_) rfl (by kernel_rfl) (by kernel_rfl) (by kernel_rfl) (fun _ _ _ h => h) (Or.inl ⟨by rfl, ?_⟩) (by assumption) ?_
                        rotate_left
                        · intro w hSw; (try dsimp only at hSw); go_simp; (try with_reducible rfl)
                        try simp only [Act.put, List.setIfInBounds_toArray, List.set_cons_zero, List.set_cons_succ]
                        refine wpAnyH_take (i := 40) (oi := ⟨some 225, _, _, _, _, _⟩) (v := ?_) rfl (by kernel_rfl) (by kernel_rfl) (by kernel_rfl) (fun _ _ _ h => h) (Or.inl ⟨by rfl, ?_⟩) (by assumption) ?_
                        rotate_left
                        · intro w hSw; (try dsimp only at hSw); go_simp; (try with_reducible rfl)
                        try simp only [Act.put, List.setIfInBounds_toArray, List.set_cons_zero, List.set_cons_succ]
                        refine wpAnyH_take (i := 41) (oi := ⟨some 226, _, _, _, _, _⟩) (v := ?_) rfl (by kernel_rfl) (by kernel_rfl) (by kernel_rfl) (fun _ _ _ h => h) (Or.inl ⟨by rfl, ?_⟩) (by assumption) ?_
                        rotate_left
                        · intro w hSw; (try dsimp only at hSw); go_simp; (try with_reducible rfl)
                        try simp only [Act.put, List.setIfInBounds_toArray, List.set_cons_zero, List.set_cons_succ]
                        refine wpAnyH_take (i := 42) (oi := ⟨some 227, _, _, _, _, _⟩) (v := (tpV fj.back)) rfl (by kernel_rfl) (by kernel_rfl) (by kernel_rfl) (fun _ _ _ h => h) (yieldsIf_load_at (by rfl) 38 _ rfl ((fd.add (j * 12)).add 5) rfl (tpL fj.back) _ (fun Y h => fl_back (HJ.out Y h)) Try.underlying38 rfl info_tp) (by assumption) ?_
                        try simp only [Act.put, List.setIfInBounds_toArray, List.set_cons_zero, List.set_cons_succ]
                        refine wpAnyH_take (i := 43) (oi := ⟨some 228, _, _, _, _, _⟩) (v := ?_) rfl (by kernel_rfl) (by kernel_rfl) (by kernel_rfl) (fun _ _ _ h => h) (Or.inl ⟨by rfl, ?_⟩) (by assumption) ?_
                        rotate_left
                        · intro w hSw; (try dsimp only at hSw); go_simp; (try with_reducible rfl)
                        try simp only [Act.put, List.setIfInBounds_toArray, List.set_cons_zero, List.set_cons_succ]
                        refine wpAnyH_take (i := 44) (oi := ⟨some 229, _, _, _, _, _⟩) (v := ?_) rfl (by kernel_rfl) (by kernel_rfl) (by kernel_rfl) (fun _ _ _ h => h) (Or.inl ⟨by rfl, ?_⟩) (by assumption) ?_
                        rotate_left
                        · intro w hSw; (try dsimp only at hSw); go_simp; (try with_reducible rfl)
                        try simp only [Act.put, List.setIfInBounds_toArray, List.set_cons_zero, List.set_cons_succ]
                        refine wpAnyH_take (i := 45) (oi := ⟨some 230, _, _, _, _, _⟩) (v := ?_) rfl (by kernel_rfl) (by kernel_rfl) (by kernel_rfl) (fun _ _ _ h => h) (Or.inl ⟨by rfl, ?_⟩) (by assumption) ?_
                        rotate_left
                        · intro w hSw; (try dsimp only at hSw); go_simp; (try with_reducible rfl)
                        try simp only [Act.put, List.setIfInBounds_toArray, List.set_cons_zero, List.set_cons_succ]
                        refine wpAnyH_take (i := 46) (oi := ⟨some 231, _, _, _, _, _⟩) (v := ?_) rfl (by kernel_rfl) (by kernel_rfl) (by kernel_rfl) (fun _ _ _ h => h) (Or.inl ⟨by rfl, ?_⟩) (by assumption) ?_
                        rotate_left
                        · intro w hSw; (try dsimp only at hSw); go_simp; (try with_reducible rfl)
                        try simp only [Act.put, List.setIfInBounds_toArray, List.set_cons_zero, List.set_cons_succ]
                        refine wpAnyH_take (i := 47) (oi := ⟨some 232, _, _, _, _, _⟩) (v := (tpV f.there)) rfl (by kernel_rfl) (by kernel_rfl) (by kernel_rfl) (fun _ _ _ h => h) (yieldsIf_load_at (by rfl) 38 _ rfl (fd.add (k * 12)) rfl (tpL f.there) _ (fun Y h => fl_there (HK.out Y h)) Try.underlying38 rfl info_tp) (by assumption) ?_
                        try simp only [Act.put, List.setIfInBounds_toArray, List.set_cons_zero, List.set_cons_succ]
                        refine wpAnyH_take (i := 48) (oi := ⟨some 233, _, _, _, _, _⟩) (v := ?_) rfl (by kernel_rfl) (by kernel_rfl) (by kernel_rfl) (fun _ _ _ h => h) (Or.inl ⟨by rfl, ?_⟩) (by assumption) ?_
                        rotate_left
                        · intro w hSw; (try dsimp only at hSw); go_simp; (try with_reducible rfl)
                        try simp only [Act.put, List.setIfInBounds_toArray, List.set_cons_zero, List.set_cons_succ]
                        refine wpAnyH_take (i := 49) (oi := ⟨some 234, _, _, _, _, _⟩) (v := ?_) rfl (by kernel_rfl) (by kernel_rfl) (by kernel_rfl) (fun _ _ _ h => h) (Or.inl ⟨by rfl, ?_⟩) (by assumption) ?_
                        rotate_left
                        · intro w hSw; (try dsimp only at hSw); go_simp; (try with_reducible rfl)
                        try simp only [Act.put, List.setIfInBounds_toArray, List.set_cons_zero, List.set_cons_succ]
                        refine wpAnyH_done (by kernel_rfl) ?_ _
                        have yq := hHeld
                        clear hHeld
                        go_wp2
                        go_round
                        case rel => exact ⟨j + 1, by go_num, by omega, Go.Lib.hid (HBJ.out.trans (yq.mono HBJ.out.size))⟩
                        case measure => simp [intOf]; omega
                    · have t6 : ¬ (j : Int) < (k : Int) := by omega
                      go_wp2_with fail
                      go_round
                      case rel => exact ⟨k + 1, by go_num, by omega, Go.Lib.hid (HI9.out.call HBJ.out), Go.Lib.hid (HF.out.at (yk.out.trans (HBJ.out.mono yk.out.size)))⟩
                      case measure => simp [intOf]; omega
              · have t5 : ¬ (k : Int) < (l.length : Int) := by omega
                go_wp2_with fail
                go_round
                case rel => exact ⟨i + 1, X, F2, rfl, by go_num, by omega, by omega, hXl, HI⟩
                case measure => simp [intOf]; omega
        · have t1 : (i : Int) < (L.length : Int) := by omega
          have t2 : ¬ (i : Int) < 120 := by omega
          have HBW := HI.out.below
          go_wp2_with fail
          go_ret
          exact ⟨rfl, HBW⟩
      · have t1 : ¬ (i : Int) < (L.length : Int) := by omega
        have HBW := HI.out.below
        go_wp2_with fail
        go_ret
        exact ⟨rfl, HBW⟩
end Go.Proofs.Ytofpalmghdapkaa
