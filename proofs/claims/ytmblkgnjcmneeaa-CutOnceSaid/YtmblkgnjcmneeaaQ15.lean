/- Lemmas, several texts in one. -/
import Derived.Deep.RegionHeld3
import Derived.Deep.DeepCutAuto
import Derived.Test.YtmblkgnjcmneeaaQ14
/- The contract of package cut's planned. -/
namespace Go.Proofs.Ytmblkgnjcmneeaa
open Go.ChangeShapes Go.WideShapes Go.ChangeAt Go.RowKit
set_option linter.unusedVariables false
set_option linter.unusedSimpArgs false

set_option maxRecDepth 100000 in
set_option maxHeartbeats 16000000 in
theorem cplanned (p : Pk) (Ao : Option Addr) (co : Nat) (Ab : Option Addr) (cb : Nat) (mtu : Int) (w : World) (V : Nat → Prop) (l : List Pk) (err : Int) (hl : cutP p mtu = (l, err)) (hp : PkAt w V p Ao co Ab cb) (ho : p.opts.length ≤ 16777216) (hb : p.body.length ≤ 16777216) :
    Calls Try.prog 18 #[ipV p Ao co Ab cb, .int .i64 mtu] w (PlanPost w p Ao co Ab cb l err) := by
  have HL := Go.Lib.hid hl
  have y0 : Below w.heap.size w ((w.alloc (oPk p Ao co Ab cb)).alloc (oPl pk0 none 0 none 0 0 0)) := below_alloc (below_alloc (Below.refl _ _) (Nat.le_refl _) _) (by simp) _
  have h1 := (Bxo.made w 25 (pkL p Ao co Ab cb)).alloc (oPl pk0 none 0 none 0 0 0)
  have h2 : Bxo ((w.alloc (oPk p Ao co Ab cb)).alloc (oPl pk0 none 0 none 0 0 0)) (w.heap.size + 1) 50 (plL pk0 none 0 none 0 0 0) := by
    have := Bxo.made (w.alloc (oPk p Ao co Ab cb)) 50 (plL pk0 none 0 none 0 0 0)
    simpa using this
  have hz : ((w.alloc (oPk p Ao co Ab cb)).alloc (oPl pk0 none 0 none 0 0 0)).heap.size = w.heap.size + 2 := by simp
  have hxo := hp.at y0
  have q1 := hp.o.len
  have q2 := hp.o.cap
  have q3 := hp.b.len
  have q4 := hp.b.cap
  clear hp hl
  go_enter Try.func18, Try.ntmps18
  go_upto_region 1 with fail
  generalize ((w.alloc (oPk p Ao co Ab cb)).alloc (oPl pk0 none 0 none 0 0 0)) = W at *
  have H1 := Go.Lib.hid h1
  have H2 := Go.Lib.hid h2
  have HX := Go.Lib.hid hxo
  clear h1 h2 hxo
  by_cases h1 : ¬ mtu < 28
  · by_cases h2 : ¬ 65535 < mtu
    · cases hM : mayB p
      · have HM := Go.Lib.hid hM
        clear hM
        have HE : Hid (l = [] ∧ err = 1) := Go.Lib.hid (by have := HL.out; unfold cutP at this; rw [if_pos (.inl HM.out)] at this; injection this with a b; exact ⟨a.symm, b.symm⟩)
        go_wp2_with (first
          | (refine wpList_load_box rfl 25 _ rfl w.heap.size rfl (pkL p Ao co Ab cb) _ H1.out Try.underlying25 rfl info_pk ?_)
          | (go_at_call 39; refine (cmayCut p Ao co Ab cb W V _ HM.out HX.out ho hb).mono ?_; rintro e w1 ⟨rfl, y1⟩; have K1 := Go.Lib.hid (H1.out.keep y1 H1.out.lt); have K2 := Go.Lib.hid (H2.out.keep y1 H2.out.lt); have x1 := y0.trans (y1.mono y0.size); dsimp only)
          | (refine wpList_store_whole rfl 50 _ _ rfl (w.heap.size + 1) _ (plL pk0 none 0 none 0 0 0) rfl rfl K2.out info_pl rfl (by simp [Value.oneCell']) ?_; intro wF hbF hoF; have HBF := Go.Lib.hid hbF; clear hbF))
        have yF := x1.trans (hoF.below (show w.heap.size ≤ w.heap.size + 1 by omega))
        exact bodyPost_ret (v := .tuple #[.agg (plL pk0 none 0 none 0 0 0).toArray, .int .i64 1]) (results_ct (p := 4) (u := 5) rfl _ _ (w.heap.size + 1) _ _ rfl HBF.out Try.underlying50 rfl info_pl) rfl ⟨yF, .inl ⟨by rw [HE.out.2]; decide, HE.out.1, by rw [HE.out.2]⟩⟩
      · have HM := Go.Lib.hid hM
        have hN : ¬ (mayB p = false ∨ mtu < 28 ∨ 65535 < mtu) := by rw [hM]; simp; omega
        clear hM
        have hm := (mayB_iff p).1 HM.out
        have p40 := hm.p40
        have fit := hm.fit
        have o0 := hm.o0
        clear hm
        go_upto_region 3 with (first
          | (refine wpList_load_box rfl 25 _ rfl w.heap.size rfl (pkL p Ao co Ab cb) _ H1.out Try.underlying25 rfl info_pk ?_)
          | (go_at_call 39; refine (cmayCut p Ao co Ab cb W V _ HM.out HX.out ho hb).mono ?_; rintro e w1 ⟨rfl, y1⟩; have K1 := Go.Lib.hid (H1.out.keep y1 H1.out.lt); have K2 := Go.Lib.hid (H2.out.keep y1 H2.out.lt); have x1 := y0.trans (y1.mono y0.size); dsimp only))
        have d9 := K1.out.cell 9 rfl
        have d10 := K1.out.cell 10 rfl
        have d2 := K1.out.cell 2 rfl
        have e1 : IntKind.i64.wrap (mtu - 20) = mtu - 20 := IntWalk.i64_in _ (by omega)
        have e2 : IntKind.i64.wrap (mtu - 20 - (p.opts.length : Int)) = mtu - 20 - (p.opts.length : Int) := IntWalk.i64_in _ (by omega)
        clear H1 H2 HX
        by_cases h3 : (p.body.length : Int) ≤ mtu - 20 - (p.opts.length : Int)
        · have HE : Hid (l = [p] ∧ err = 0) := Go.Lib.hid (by have := HL.out; unfold cutP at this; rw [if_neg hN, if_pos (by omega)] at this; injection this with a b; exact ⟨a.symm, b.symm⟩)
          clear hN
          go_wp2_with (first
            | (refine wpList_load_box rfl 25 _ rfl w.heap.size rfl (pkL p Ao co Ab cb) _ K1.out Try.underlying25 rfl info_pk ?_)
            | (refine wpList_store_whole rfl 50 _ _ rfl (w.heap.size + 1) _ (plL p Ao co Ab cb p.body.length 1) rfl rfl K2.out info_pl rfl (by simp [Value.oneCell']) ?_; intro wF hbF hoF; have HBF := Go.Lib.hid hbF; clear hbF))
          have yF := x1.trans (hoF.below (show w.heap.size ≤ w.heap.size + 1 by omega))
          exact bodyPost_ret (v := .tuple #[.agg (plL p Ao co Ab cb p.body.length 1).toArray, .int .i64 0]) (results_ct (p := 4) (u := 5) rfl _ _ (w.heap.size + 1) _ _ rfl HBF.out Try.underlying50 rfl info_pl) rfl ⟨yF, .inr ⟨HE.out.2, p.body.length, 1, by rw [HE.out.1]; exact PlanR.fit ((mayB_iff p).1 HM.out), rfl⟩⟩
        · cases hdf : p.df
          · have HD := Go.Lib.hid hdf
            rw [hdf] at d2
            clear hdf
            by_cases h8 : mtu - 20 - (p.opts.length : Int) < 8
            · have HE : Hid (l = [] ∧ err = 4) := Go.Lib.hid (by have := HL.out; unfold cutP at this; rw [if_neg hN, if_neg (by omega), if_neg (by rw [HD.out]; simp), if_pos (by unfold stepC; omega)] at this; injection this with a b; exact ⟨a.symm, b.symm⟩)
              clear hN
              go_wp2_with (refine wpList_store_whole rfl 50 _ _ rfl (w.heap.size + 1) _ (plL pk0 none 0 none 0 0 0) rfl rfl K2.out info_pl rfl (by simp [Value.oneCell']) ?_; intro wF hbF hoF; have HBF := Go.Lib.hid hbF; clear hbF)
              have yF := x1.trans (hoF.below (show w.heap.size ≤ w.heap.size + 1 by omega))
              exact bodyPost_ret (v := .tuple #[.agg (plL pk0 none 0 none 0 0 0).toArray, .int .i64 4]) (results_ct (p := 4) (u := 5) rfl _ _ (w.heap.size + 1) _ _ rfl HBF.out Try.underlying50 rfl info_pl) rfl ⟨yF, .inl ⟨by rw [HE.out.2]; decide, HE.out.1, by rw [HE.out.2]⟩⟩
            · obtain ⟨n, hn⟩ : ∃ n : Nat, stepC p mtu = (n : Int) := ⟨(stepC p mtu).toNat, by unfold stepC; omega⟩
              have ht : Int.tmod (mtu - 20 - (p.opts.length : Int)) 8 = (mtu - 20 - (p.opts.length : Int)) % 8 := Int.tmod_eq_emod_of_nonneg (by omega)
              have hn2 : n = mtu - 20 - (p.opts.length : Int) - (mtu - 20 - (p.opts.length : Int)) % 8 := by rw [← hn]; unfold stepC; omega
              have HC : Hid (CutR p mtu (cutL n p) n) := Go.Lib.hid ⟨(mayB_iff p).1 HM.out, by omega, by omega, by omega, rfl, fun h => by omega, fun h => ⟨by omega, by omega, by omega, by omega, by omega, HD.out⟩⟩
              have HE : Hid (l = cutL n p ∧ err = 0) := Go.Lib.hid (by have := HL.out; unfold cutP at this; rw [if_neg hN, if_neg (by omega), if_neg (by rw [HD.out]; simp), if_neg (by rw [hn]; omega)] at this; injection this with a b; rw [hn] at a; exact ⟨a.symm, b.symm⟩)
              have hnl : n < p.body.length := by omega
              obtain ⟨m, hm⟩ : ∃ m, (cutL n p).length = m := ⟨_, rfl⟩
              have HP : Hid (PlanR p (cutL n p) n m) := Go.Lib.hid (hm ▸ PlanR.cut HC.out hnl)
              have hm2 : (p.body.length + n - 1) / n = m := by rw [← hm, cutL_len HC.out.n0]; unfold numC; rw [if_neg (by omega)]
              have hq : Int.tdiv ((p.body.length : Int) + (n : Int) - 1) (n : Int) = (m : Int) := by
                rw [Int.tdiv_eq_ediv_of_nonneg (by omega), ← hm2, show (p.body.length : Int) + (n : Int) - 1 = ((p.body.length + n - 1 : Nat) : Int) by omega]; rfl
              have m2 := HP.out.m2
              have f1 : IntKind.i64.wrap (Int.tmod (mtu - 20 - (p.opts.length : Int)) 8) = (mtu - 20 - (p.opts.length : Int)) % 8 := by rw [ht]; exact IntWalk.i64_in _ (by omega)
              have f2 : IntKind.i64.wrap (mtu - 20 - (p.opts.length : Int) - (mtu - 20 - (p.opts.length : Int)) % 8) = (n : Int) := by rw [← hn2]; exact IntWalk.i64_in _ (by omega)
              have f3 : IntKind.i64.wrap ((p.body.length : Int) + (n : Int)) = (p.body.length : Int) + (n : Int) := IntWalk.i64_in _ (by omega)
              have f4 : IntKind.i64.wrap ((p.body.length : Int) + (n : Int) - 1) = (p.body.length : Int) + (n : Int) - 1 := IntWalk.i64_in _ (by omega)
              have f5 : IntKind.i64.wrap (Int.tdiv ((p.body.length : Int) + (n : Int) - 1) (n : Int)) = (m : Int) := by rw [hq]; exact IntWalk.i64_in _ (by omega)
              have f6 : IntKind.i64.wrap (m : Int) = (m : Int) := IntWalk.i64_in _ (by omega)
              have g0 : ¬ n = 0 := by omega
              have HNN := Go.Lib.hid hn2
              clear hN hn hm hm2 hn2
              go_upto_region 11 with fail
              try simp only [Act.put, List.setIfInBounds_toArray, List.set_cons_zero, List.set_cons_succ]
              refine wp_region_held_drew (S := fun Y => Bxo Y w.heap.size 25 (pkL p Ao co Ab cb)) (by kernel_rfl) ?_ (fun hHeld => ?_)
              · exact K1.out.drew
              refine wpAnyH_take (i := 0) (oi := ⟨some 46, _, _, _, _, _⟩) (v := (ipV p Ao co Ab cb)) rfl (by kernel_rfl) (by kernel_rfl) (by kernel_rfl) (fun _ _ _ h => h) (yieldsIf_load_at (by rfl) 25 _ rfl ⟨w.heap.size, 0, none⟩ rfl (pkL p Ao co Ab cb) _ (fun Y h => h.at) Try.underlying25 rfl info_pk) (by assumption) ?_
              try simp only [Act.put, List.setIfInBounds_toArray, List.set_cons_zero, List.set_cons_succ]
              refine wpAnyH_take (i := 1) (oi := ⟨some 47, _, _, _, _, _⟩) (v := ?_) rfl (by kernel_rfl) (by kernel_rfl) (by kernel_rfl) (fun _ _ _ h => h) (Or.inl ⟨by rfl, ?_⟩) (by assumption) ?_
              rotate_left
              · intro w hSw; (try dsimp only at hSw); go_simp; (try with_reducible rfl)
              try simp only [Act.put, List.setIfInBounds_toArray, List.set_cons_zero, List.set_cons_succ]
              refine wpAnyH_take (i := 2) (oi := ⟨some 48, _, _, _, _, _⟩) (v := ?_) rfl (by kernel_rfl) (by kernel_rfl) (by kernel_rfl) (fun _ _ _ h => h) (Or.inl ⟨by rfl, ?_⟩) (by assumption) ?_
              rotate_left
              · intro w hSw; (try dsimp only at hSw); go_simp; (try with_reducible rfl)
              try simp only [Act.put, List.setIfInBounds_toArray, List.set_cons_zero, List.set_cons_succ]
              refine wpAnyH_take (i := 3) (oi := ⟨some 49, _, _, _, _, _⟩) (v := ?_) rfl (by kernel_rfl) (by kernel_rfl) (by kernel_rfl) (fun _ _ _ h => h) (Or.inl ⟨by rfl, ?_⟩) (by assumption) ?_
              rotate_left
              · intro w hSw; have x10 := hSw.cell 10 rfl; (try dsimp only at hSw); go_simp; (try with_reducible rfl)
              try simp only [Act.put, List.setIfInBounds_toArray, List.set_cons_zero, List.set_cons_succ]
              refine wpAnyH_take (i := 4) (oi := ⟨some 50, _, _, _, _, _⟩) (v := ?_) rfl (by kernel_rfl) (by kernel_rfl) (by kernel_rfl) (fun _ _ _ h => h) (Or.inl ⟨by rfl, ?_⟩) (by assumption) ?_
              rotate_left
              · intro w hSw; (try dsimp only at hSw); go_simp; (try with_reducible rfl)
              try simp only [Act.put, List.setIfInBounds_toArray, List.set_cons_zero, List.set_cons_succ]
              refine wpAnyH_take (i := 5) (oi := ⟨some 51, _, _, _, _, _⟩) (v := ?_) rfl (by kernel_rfl) (by kernel_rfl) (by kernel_rfl) (fun _ _ _ h => h) (Or.inl ⟨by rfl, ?_⟩) (by assumption) ?_
              rotate_left
              · intro w hSw; (try dsimp only at hSw); go_simp; (try with_reducible rfl)
              try simp only [Act.put, List.setIfInBounds_toArray, List.set_cons_zero, List.set_cons_succ]
              refine wpAnyH_take (i := 6) (oi := ⟨some 52, _, _, _, _, _⟩) (v := ?_) rfl (by kernel_rfl) (by kernel_rfl) (by kernel_rfl) (fun _ _ _ h => h) (Or.inl ⟨by rfl, ?_⟩) (by assumption) ?_
              rotate_left
              · intro w hSw; (try dsimp only at hSw); go_simp; (try with_reducible rfl)
              try simp only [Act.put, List.setIfInBounds_toArray, List.set_cons_zero, List.set_cons_succ]
              refine wpAnyH_take (i := 7) (oi := ⟨some 53, _, _, _, _, _⟩) (v := ?_) rfl (by kernel_rfl) (by kernel_rfl) (by kernel_rfl) (fun _ _ _ h => h) (Or.inl ⟨by rfl, ?_⟩) (by assumption) ?_
              rotate_left
              · intro w hSw; (try dsimp only at hSw); go_simp; (try with_reducible rfl)
              try simp only [Act.put, List.setIfInBounds_toArray, List.set_cons_zero, List.set_cons_succ]
              refine wpAnyH_take (i := 8) (oi := ⟨some 54, _, _, _, _, _⟩) (v := ?_) rfl (by kernel_rfl) (by kernel_rfl) (by kernel_rfl) (fun _ _ _ h => h) (Or.inl ⟨by rfl, ?_⟩) (by assumption) ?_
              rotate_left
              · intro w hSw; (try dsimp only at hSw); go_simp; (try with_reducible rfl)
              try simp only [Act.put, List.setIfInBounds_toArray, List.set_cons_zero, List.set_cons_succ]
              refine wpAnyH_take (i := 9) (oi := ⟨some 55, _, _, _, _, _⟩) (v := ?_) rfl (by kernel_rfl) (by kernel_rfl) (by kernel_rfl) (fun _ _ _ h => h) (Or.inl ⟨by rfl, ?_⟩) (by assumption) ?_
              rotate_left
              · intro w hSw; (try dsimp only at hSw); go_simp; (try with_reducible rfl)
              try simp only [Act.put, List.setIfInBounds_toArray, List.set_cons_zero, List.set_cons_succ]
              refine wpAnyH_take (i := 10) (oi := ⟨some 56, _, _, _, _, _⟩) (v := plV p Ao co Ab cb n m) rfl (by kernel_rfl) (by kernel_rfl) (by kernel_rfl) (fun _ _ _ h => h) (Or.inl ⟨by rfl, ?_⟩) (by assumption) ?_
              · intro w hSw; (try dsimp only at hSw); go_simp; (try rfl)
              try simp only [Act.put, List.setIfInBounds_toArray, List.set_cons_zero, List.set_cons_succ]
              refine wpAnyH_ready (rs := [11]) (by kernel_rfl) (by simp) (AllReadyH.cons (o := ⟨none, _, _, _, _, _⟩) rfl (fun Kc hKc => ?_) AllReadyH.nil)
              rw [if_pos (by rfl)]
              refine step_store_whole 50 _ _ rfl (w.heap.size + 1) _ (plL p Ao co Ab cb n m) rfl rfl K2.out info_pl rfl (by simp [Value.oneCell']) ?_; intro wF hbF hoF; have HBF := Go.Lib.hid hbF; clear hbF
              refine hKc.out _ _ (hHeld.only hoF (by omega)) (fun hHeld => ?_)
              clear hKc Kc
              try simp only [Act.put, List.setIfInBounds_toArray, List.set_cons_zero, List.set_cons_succ]
              refine wpAnyH_take (i := 12) (oi := ⟨some 5, _, _, _, _, _⟩) (v := ?_) rfl (by kernel_rfl) (by kernel_rfl) (by kernel_rfl) (fun _ _ _ h => h) (Or.inl ⟨by rfl, ?_⟩) (by assumption) ?_
              rotate_left
              · intro w hSw; (try dsimp only at hSw); go_simp; (try with_reducible rfl)
              try simp only [Act.put, List.setIfInBounds_toArray, List.set_cons_zero, List.set_cons_succ]
              refine wpAnyH_done (by kernel_rfl) ?_ _
              go_wp2
              have yF := x1.drew.trans (hoF.below (show w.heap.size ≤ w.heap.size + 1 by omega))
              exact bodyPost_ret (v := .tuple #[.agg (plL p Ao co Ab cb n m).toArray, .int .i64 0]) (results_ct (p := 4) (u := 5) rfl _ _ (w.heap.size + 1) _ _ rfl HBF.out Try.underlying50 rfl info_pl) rfl ⟨yF, .inr ⟨HE.out.2, n, m, by rw [HE.out.1]; exact HP.out, rfl⟩⟩
          · have HE : Hid (l = [] ∧ err = 7) := Go.Lib.hid (by have := HL.out; unfold cutP at this; rw [if_neg hN, if_neg (by omega), if_pos hdf] at this; injection this with a b; exact ⟨a.symm, b.symm⟩)
            clear hN
            rw [hdf] at d2
            go_wp2_with (refine wpList_store_whole rfl 50 _ _ rfl (w.heap.size + 1) _ (plL pk0 none 0 none 0 0 0) rfl rfl K2.out info_pl rfl (by simp [Value.oneCell']) ?_; intro wF hbF hoF; have HBF := Go.Lib.hid hbF; clear hbF)
            have yF := x1.trans (hoF.below (show w.heap.size ≤ w.heap.size + 1 by omega))
            exact bodyPost_ret (v := .tuple #[.agg (plL pk0 none 0 none 0 0 0).toArray, .int .i64 7]) (results_ct (p := 4) (u := 5) rfl _ _ (w.heap.size + 1) _ _ rfl HBF.out Try.underlying50 rfl info_pl) rfl ⟨yF, .inl ⟨by rw [HE.out.2]; decide, HE.out.1, by rw [HE.out.2]⟩⟩
    · have h2 : 65535 < mtu := by omega
      have HE : Hid (l = [] ∧ err = 1) := Go.Lib.hid (by have := HL.out; unfold cutP at this; rw [if_pos (by omega)] at this; injection this with a b; exact ⟨a.symm, b.symm⟩)
      go_wp2_with (refine wpList_store_whole rfl 50 _ _ rfl (w.heap.size + 1) _ (plL pk0 none 0 none 0 0 0) rfl rfl H2.out info_pl rfl (by simp [Value.oneCell']) ?_; intro wF hbF hoF; have HBF := Go.Lib.hid hbF; clear hbF)
      have yF := y0.trans (hoF.below (show w.heap.size ≤ w.heap.size + 1 by omega))
      exact bodyPost_ret (v := .tuple #[.agg (plL pk0 none 0 none 0 0 0).toArray, .int .i64 1]) (results_ct (p := 4) (u := 5) rfl _ _ (w.heap.size + 1) _ _ rfl HBF.out Try.underlying50 rfl info_pl) rfl ⟨yF, .inl ⟨by rw [HE.out.2]; decide, HE.out.1, by rw [HE.out.2]⟩⟩
  · have h1 : mtu < 28 := by omega
    have HE : Hid (l = [] ∧ err = 1) := Go.Lib.hid (by have := HL.out; unfold cutP at this; rw [if_pos (by omega)] at this; injection this with a b; exact ⟨a.symm, b.symm⟩)
    go_wp2_with (refine wpList_store_whole rfl 50 _ _ rfl (w.heap.size + 1) _ (plL pk0 none 0 none 0 0 0) rfl rfl H2.out info_pl rfl (by simp [Value.oneCell']) ?_; intro wF hbF hoF; have HBF := Go.Lib.hid hbF; clear hbF)
    have yF := y0.trans (hoF.below (show w.heap.size ≤ w.heap.size + 1 by omega))
    exact bodyPost_ret (v := .tuple #[.agg (plL pk0 none 0 none 0 0 0).toArray, .int .i64 1]) (results_ct (p := 4) (u := 5) rfl _ _ (w.heap.size + 1) _ _ rfl HBF.out Try.underlying50 rfl info_pl) rfl ⟨yF, .inl ⟨by rw [HE.out.2]; decide, HE.out.1, by rw [HE.out.2]⟩⟩
end Go.Proofs.Ytmblkgnjcmneeaa
