/- Lemmas, several texts in one. -/
import Derived.Test.YtmgkkgpdnopeaaaQ18
import Derived.Laws.Externs
import Derived.Test.YtmgkkgpdnopeaaaQ01
import Derived.Carry
import Derived.ProofKit
import Derived.OpenShut
import Derived.ChangeSlices
import Derived.Deep.Fields
/- Contracts of package tuple: bytes.Compare of arrays, Less. -/
namespace Go.Proofs.Ytmgkkgpdnopeaaa
open Go.ChangeShapes Go.WideShapes Go.ChangeAt Go.RowKit
set_option linter.unusedVariables false
set_option linter.unusedSimpArgs false

theorem info_z13 : (Try.prog.info? 65).map (·.zero) = some (some (.agg #[.int .u8 0, .int .u8 0, .int .u8 0, .int .u8 0, .int .u8 0, .int .u8 0, .int .u8 0, .int .u8 0, .int .u8 0, .int .u8 0, .int .u8 0, .int .u8 0, .int .u8 0])) := by kernel_rfl
theorem u8_at {w : World} {g : Nat} {l : List Int} (H : Bxo w g 65 (u8L l)) : ∀ j x, l[j]? = some x → w.cell? ((⟨g, 0, none⟩ : Addr).add j) = some (.int .u8 x) := fun j x hj => H.at j _ (by simp [u8L, hj])
set_option maxRecDepth 100000 in
set_option maxHeartbeats 4000000 in
theorem ccompare (w : World) (g h : Nat) (a b : Tp) (H1 : Bxo w g 65 (u8L (bytesT a))) (H2 : Bxo w h 65 (u8L (bytesT b))) :
    Calls Try.prog 30 #[.slice (some ⟨g, 0, none⟩) 13 13, .slice (some ⟨h, 0, none⟩) 13 13] w fun e w' =>
      e = .returned (.int .i64 (cmpAt ⟨(Lib.bytesOf (bytesT a)).toArray⟩ ⟨(Lib.bytesOf (bytesT b)).toArray⟩ 0 13)) ∧ w = w' := by
  have HR := Go.Lib.hid (run_cmpSlices (P := Try.prog) w g h 13 13 13 (bytesT a) (bytesT b) (by simp [bytesT]) (by simp [bytesT]) (u8_at H1) (u8_at H2))
  clear H1 H2
  generalize cmpAt ⟨(Lib.bytesOf (bytesT a)).toArray⟩ ⟨(Lib.bytesOf (bytesT b)).toArray⟩ 0 13 = r at *
  go_enter Try.func30, Try.ntmps30
  go_wp2
  rw [run_callFunc_extern Try.func55 (by kernel_rfl) (by kernel_rfl) (by kernel_rfl) (e := Extern.BytealgCompare.compare) (by kernel_rfl), HR.out]
  simp only [Result.andThen]
  rw [Oper.upon_value]
  go_wp2
  go_ret
  exact ⟨rfl, rfl⟩
set_option maxRecDepth 100000 in
set_option maxHeartbeats 8000000 in
theorem cless9 : LessC9 := by
  intro a b w q hq ha hb
  obtain ⟨c, hc⟩ : ∃ c, cmpAt ⟨(Lib.bytesOf (bytesT a)).toArray⟩ ⟨(Lib.bytesOf (bytesT b)).toArray⟩ 0 13 = c := ⟨_, rfl⟩
  have hd := cmp_bytes a b ha hb
  rw [hq, hc] at hd
  have HC := Go.Lib.hid hc
  have HD := Go.Lib.hid hd
  have y0 : Below w.heap.size w ((w.alloc (oTp a)).alloc (oTp b)) := below_alloc (below_alloc (Below.refl _ _) (Nat.le_refl _) _) (by simp) _
  have h1 := (Bxo.made w 27 (tpL a)).alloc (oTp b)
  have h2 : Bxo ((w.alloc (oTp a)).alloc (oTp b)) (w.heap.size + 1) 27 (tpL b) := by
    have := Bxo.made (w.alloc (oTp a)) 27 (tpL b)
    simpa using this
  have hz : ((w.alloc (oTp a)).alloc (oTp b)).heap.size = w.heap.size + 2 := by simp
  clear hq hc hd
  go_enter Try.func17, Try.ntmps17
  go_upto_region 1 with fail
  generalize ((w.alloc (oTp a)).alloc (oTp b)) = W at *
  have HA := Go.Lib.hid h1
  have HB := Go.Lib.hid h2
  clear h1 h2
  go_cut [5, 6] (fun p5 p6 wx => ∃ g5 g6, p5 = .pointer (some ⟨g5, 0, none⟩) ∧ p6 = .pointer (some ⟨g6, 0, none⟩) ∧ g5 ≠ g6 ∧ Bxo wx g5 65 (u8L (bytesT a)) ∧ Bxo wx g6 65 (u8L (bytesT b)) ∧ Below w.heap.size w wx)
  case first =>
    try simp only [Act.put, List.setIfInBounds_toArray, List.set_cons_zero, List.set_cons_succ]
    refine wp_region_held_drew (S := fun Y => Below W.heap.size W Y) (by kernel_rfl) ?_ (fun hHeld => ?_)
    · exact below_drew (Below.refl _ _)
    have zd : W.drew.heap.size ≤ W.heap.size := Nat.le_refl _; have zd2 : W.heap.size ≤ W.drew.heap.size := Nat.le_refl _
    refine wpAnyH_take (i := 0) (oi := ⟨some 7, _, _, _, _, _⟩) (v := (tpV a)) rfl (by kernel_rfl) (by kernel_rfl) (by kernel_rfl) (fun _ _ _ h => h) (yieldsIf_load_at (by rfl) 27 _ rfl ⟨w.heap.size, 0, none⟩ rfl (tpL a) _ (fun Y h => (HA.out.keep h HA.out.lt).at) Try.underlying27 rfl info_tp) (by assumption) ?_
    try simp only [Act.put, List.setIfInBounds_toArray, List.set_cons_zero, List.set_cons_succ]
    refine wpAnyH_take (i := 2) (oi := ⟨some 9, _, _, _, _, _⟩) (v := (tpV b)) rfl (by kernel_rfl) (by kernel_rfl) (by kernel_rfl) (fun _ _ _ h => h) (yieldsIf_load_at (by rfl) 27 _ rfl ⟨w.heap.size + 1, 0, none⟩ rfl (tpL b) _ (fun Y h => (HB.out.keep h HB.out.lt).at) Try.underlying27 rfl info_tp) (by assumption) ?_
    try simp only [Act.put, List.setIfInBounds_toArray, List.set_cons_zero, List.set_cons_succ]
    refine wpAnyH_ready (rs := [1, 4, 5]) (by kernel_rfl) (by simp) (AllReadyH.cons (o := ⟨some 8, _, _, _, _, _⟩) rfl (fun Kc hKc => ?_) (AllReadyH.cons (o := ⟨some 5, _, _, _, _, _⟩) rfl (fun Kc hKc => ?_) (AllReadyH.cons (o := ⟨some 6, _, _, _, _, _⟩) rfl (fun Kc hKc => ?_) AllReadyH.nil)))
    ·
      have zhq1 := hHeld.size
      go_simp
      go_at_call 28; refine (ctold a ha W.drew).mono ?_; rintro e wq1 ⟨rfl, yq1⟩; dsimp only
      have zq1 := yq1.size
      refine hKc.out _ _ (hHeld.trans (yq1.mono hHeld.size)) (fun hHeld => ?_)
      clear hKc Kc
      try simp only [Act.put, List.setIfInBounds_toArray, List.set_cons_zero, List.set_cons_succ]
      refine wpAnyH_ready (rs := [3, 4, 5]) (by kernel_rfl) (by simp) (AllReadyH.cons (o := ⟨some 10, _, _, _, _, _⟩) rfl (fun Kc hKc => ?_) (AllReadyH.cons (o := ⟨some 5, _, _, _, _, _⟩) rfl (fun Kc hKc => ?_) (AllReadyH.cons (o := ⟨some 6, _, _, _, _, _⟩) rfl (fun Kc hKc => ?_) AllReadyH.nil)))
      ·
        have zhq2 := hHeld.size
        go_simp
        go_at_call 28; refine (ctold b hb wq1).mono ?_; rintro e wq2 ⟨rfl, yq2⟩; dsimp only
        have zq2 := yq2.size
        refine hKc.out _ _ (hHeld.trans (yq2.mono hHeld.size)) (fun hHeld => ?_)
        clear hKc Kc
        try simp only [Act.put, List.setIfInBounds_toArray, List.set_cons_zero, List.set_cons_succ]
        refine wpAnyH_ready (rs := [4, 5]) (by kernel_rfl) (by simp) (AllReadyH.cons (o := ⟨some 5, _, _, _, _, _⟩) rfl (fun Kc hKc => ?_) (AllReadyH.cons (o := ⟨some 6, _, _, _, _, _⟩) rfl (fun Kc hKc => ?_) AllReadyH.nil))
        ·
          have zhq3 := hHeld.size
          rw [if_pos (by rfl)]
          refine step_alloc 65 rfl [.int .u8 0, .int .u8 0, .int .u8 0, .int .u8 0, .int .u8 0, .int .u8 0, .int .u8 0, .int .u8 0, .int .u8 0, .int .u8 0, .int .u8 0, .int .u8 0, .int .u8 0] info_z13 ?_; intro g5 wq3 hgq3 hbq3 yq3 hzq3; have F5 := Go.Lib.hid hbq3; clear hbq3; obtain ⟨hgq3a, hgq3b⟩ := hgq3; obtain ⟨hzq3a, hzq3b⟩ := hzq3
          have zq3 := yq3.size
          refine hKc.out _ _ (hHeld.trans (yq3.mono hHeld.size)) (fun hHeld => ?_)
          clear hKc Kc
          try simp only [Act.put, List.setIfInBounds_toArray, List.set_cons_zero, List.set_cons_succ]
          refine wpAnyH_ready (rs := [5]) (by kernel_rfl) (by simp) (AllReadyH.cons (o := ⟨some 6, _, _, _, _, _⟩) rfl (fun Kc hKc => ?_) AllReadyH.nil)
          have zhq4 := hHeld.size
          rw [if_pos (by rfl)]
          refine step_alloc 65 rfl [.int .u8 0, .int .u8 0, .int .u8 0, .int .u8 0, .int .u8 0, .int .u8 0, .int .u8 0, .int .u8 0, .int .u8 0, .int .u8 0, .int .u8 0, .int .u8 0, .int .u8 0] info_z13 ?_; intro g6 wq4 hgq4 hbq4 yq4 hzq4; have F6 := Go.Lib.hid hbq4; clear hbq4; obtain ⟨hgq4a, hgq4b⟩ := hgq4; obtain ⟨hzq4a, hzq4b⟩ := hzq4
          have zq4 := yq4.size
          have F5 := Go.Lib.hid (F5.out.keep yq4 F5.out.lt)
          refine hKc.out _ _ (hHeld.trans (yq4.mono hHeld.size)) (fun hHeld => ?_)
          clear hKc Kc
          try simp only [Act.put, List.setIfInBounds_toArray, List.set_cons_zero, List.set_cons_succ]
          refine wpAnyH_ready (rs := [6]) (by kernel_rfl) (by simp) (AllReadyH.cons (o := ⟨none, _, _, _, _, _⟩) rfl (fun Kc hKc => ?_) AllReadyH.nil)
          have zhq5 := hHeld.size
          rw [if_pos (by rfl)]
          refine step_store_any 65 _ _ rfl g5 0 65 _ (u8L (bytesT a)) _ rfl rfl rfl F5.out info_a13 (by show 0 + 13 ≤ 13; omega) (u8_one (bytesT a)) ?_; intro wq5 hbq5 hoq5; have Zq5 := Go.Lib.hid hbq5; clear hbq5
          have zq5 := hoq5.size
          have F5 : Hid (Bxo wq5 g5 65 (u8L (bytesT a))) := Go.Lib.hid Zq5.out
          have F6 := Go.Lib.hid (F6.out.only hoq5 (by omega))
          refine hKc.out _ _ (hHeld.trans (hoq5.below (by omega))) (fun hHeld => ?_)
          clear hKc Kc
          try simp only [Act.put, List.setIfInBounds_toArray, List.set_cons_zero, List.set_cons_succ]
          refine wpAnyH_ready (rs := [7]) (by kernel_rfl) (by simp) (AllReadyH.cons (o := ⟨none, _, _, _, _, _⟩) rfl (fun Kc hKc => ?_) AllReadyH.nil)
          have zhq6 := hHeld.size
          rw [if_pos (by rfl)]
          refine step_store_any 65 _ _ rfl g6 0 65 _ (u8L (bytesT b)) _ rfl rfl rfl F6.out info_a13 (by show 0 + 13 ≤ 13; omega) (u8_one (bytesT b)) ?_; intro wq6 hbq6 hoq6; have Zq6 := Go.Lib.hid hbq6; clear hbq6
          have zq6 := hoq6.size
          have F5 := Go.Lib.hid (F5.out.only hoq6 (by omega))
          have F6 : Hid (Bxo wq6 g6 65 (u8L (bytesT b))) := Go.Lib.hid Zq6.out
          refine hKc.out _ _ (hHeld.trans (hoq6.below (by omega))) (fun hHeld => ?_)
          clear hKc Kc
          try simp only [Act.put, List.setIfInBounds_toArray, List.set_cons_zero, List.set_cons_succ]
          refine wpAnyH_done (by kernel_rfl) ?_ _
          go_wp2_with fail
          go_meet
          exact ⟨g5, g6, rfl, rfl, by omega, F5.out, F6.out, y0.trans (hHeld.mono y0.size)⟩
        ·
          have zhq7 := hHeld.size
          rw [if_pos (by rfl)]
          refine step_alloc 65 rfl [.int .u8 0, .int .u8 0, .int .u8 0, .int .u8 0, .int .u8 0, .int .u8 0, .int .u8 0, .int .u8 0, .int .u8 0, .int .u8 0, .int .u8 0, .int .u8 0, .int .u8 0] info_z13 ?_; intro g6 wq7 hgq7 hbq7 yq7 hzq7; have F6 := Go.Lib.hid hbq7; clear hbq7; obtain ⟨hgq7a, hgq7b⟩ := hgq7; obtain ⟨hzq7a, hzq7b⟩ := hzq7
          have zq7 := yq7.size
          refine hKc.out _ _ (hHeld.trans (yq7.mono hHeld.size)) (fun hHeld => ?_)
          clear hKc Kc
          try simp only [Act.put, List.setIfInBounds_toArray, List.set_cons_zero, List.set_cons_succ]
          refine wpAnyH_ready (rs := [4]) (by kernel_rfl) (by simp) (AllReadyH.cons (o := ⟨some 5, _, _, _, _, _⟩) rfl (fun Kc hKc => ?_) AllReadyH.nil)
          have zhq8 := hHeld.size
          rw [if_pos (by rfl)]
          refine step_alloc 65 rfl [.int .u8 0, .int .u8 0, .int .u8 0, .int .u8 0, .int .u8 0, .int .u8 0, .int .u8 0, .int .u8 0, .int .u8 0, .int .u8 0, .int .u8 0, .int .u8 0, .int .u8 0] info_z13 ?_; intro g5 wq8 hgq8 hbq8 yq8 hzq8; have F5 := Go.Lib.hid hbq8; clear hbq8; obtain ⟨hgq8a, hgq8b⟩ := hgq8; obtain ⟨hzq8a, hzq8b⟩ := hzq8
          have zq8 := yq8.size
          have F6 := Go.Lib.hid (F6.out.keep yq8 F6.out.lt)
          refine hKc.out _ _ (hHeld.trans (yq8.mono hHeld.size)) (fun hHeld => ?_)
          clear hKc Kc
          try simp only [Act.put, List.setIfInBounds_toArray, List.set_cons_zero, List.set_cons_succ]
          refine wpAnyH_ready (rs := [6]) (by kernel_rfl) (by simp) (AllReadyH.cons (o := ⟨none, _, _, _, _, _⟩) rfl (fun Kc hKc => ?_) AllReadyH.nil)
          have zhq9 := hHeld.size
          rw [if_pos (by rfl)]
          refine step_store_any 65 _ _ rfl g5 0 65 _ (u8L (bytesT a)) _ rfl rfl rfl F5.out info_a13 (by show 0 + 13 ≤ 13; omega) (u8_one (bytesT a)) ?_; intro wq9 hbq9 hoq9; have Zq9 := Go.Lib.hid hbq9; clear hbq9
          have zq9 := hoq9.size
          have F6 := Go.Lib.hid (F6.out.only hoq9 (by omega))
          have F5 : Hid (Bxo wq9 g5 65 (u8L (bytesT a))) := Go.Lib.hid Zq9.out
          refine hKc.out _ _ (hHeld.trans (hoq9.below (by omega))) (fun hHeld => ?_)
          clear hKc Kc
          try simp only [Act.put, List.setIfInBounds_toArray, List.set_cons_zero, List.set_cons_succ]
          refine wpAnyH_ready (rs := [7]) (by kernel_rfl) (by simp) (AllReadyH.cons (o := ⟨none, _, _, _, _, _⟩) rfl (fun Kc hKc => ?_) AllReadyH.nil)
          have zhq10 := hHeld.size
          rw [if_pos (by rfl)]
          refine step_store_any 65 _ _ rfl g6 0 65 _ (u8L (bytesT b)) _ rfl rfl rfl F6.out info_a13 (by show 0 + 13 ≤ 13; omega) (u8_one (bytesT b)) ?_; intro wq10 hbq10 hoq10; have Zq10 := Go.Lib.hid hbq10; clear hbq10
          have zq10 := hoq10.size
          have F6 : Hid (Bxo wq10 g6 65 (u8L (bytesT b))) := Go.Lib.hid Zq10.out
          have F5 := Go.Lib.hid (F5.out.only hoq10 (by omega))
          refine hKc.out _ _ (hHeld.trans (hoq10.below (by omega))) (fun hHeld => ?_)
          clear hKc Kc
          try simp only [Act.put, List.setIfInBounds_toArray, List.set_cons_zero, List.set_cons_succ]
          refine wpAnyH_done (by kernel_rfl) ?_ _
          go_wp2_with fail
          go_meet
          exact ⟨g5, g6, rfl, rfl, by omega, F5.out, F6.out, y0.trans (hHeld.mono y0.size)⟩
      ·
        have zhq11 := hHeld.size
        rw [if_pos (by rfl)]
        refine step_alloc 65 rfl [.int .u8 0, .int .u8 0, .int .u8 0, .int .u8 0, .int .u8 0, .int .u8 0, .int .u8 0, .int .u8 0, .int .u8 0, .int .u8 0, .int .u8 0, .int .u8 0, .int .u8 0] info_z13 ?_; intro g5 wq11 hgq11 hbq11 yq11 hzq11; have F5 := Go.Lib.hid hbq11; clear hbq11; obtain ⟨hgq11a, hgq11b⟩ := hgq11; obtain ⟨hzq11a, hzq11b⟩ := hzq11
        have zq11 := yq11.size
        refine hKc.out _ _ (hHeld.trans (yq11.mono hHeld.size)) (fun hHeld => ?_)
        clear hKc Kc
        try simp only [Act.put, List.setIfInBounds_toArray, List.set_cons_zero, List.set_cons_succ]
        refine wpAnyH_ready (rs := [3, 5]) (by kernel_rfl) (by simp) (AllReadyH.cons (o := ⟨some 10, _, _, _, _, _⟩) rfl (fun Kc hKc => ?_) (AllReadyH.cons (o := ⟨some 6, _, _, _, _, _⟩) rfl (fun Kc hKc => ?_) AllReadyH.nil))
        ·
          have zhq12 := hHeld.size
          go_simp
          go_at_call 28; refine (ctold b hb wq11).mono ?_; rintro e wq12 ⟨rfl, yq12⟩; dsimp only
          have zq12 := yq12.size
          have F5 := Go.Lib.hid (F5.out.keep yq12 F5.out.lt)
          refine hKc.out _ _ (hHeld.trans (yq12.mono hHeld.size)) (fun hHeld => ?_)
          clear hKc Kc
          try simp only [Act.put, List.setIfInBounds_toArray, List.set_cons_zero, List.set_cons_succ]
          refine wpAnyH_ready (rs := [5]) (by kernel_rfl) (by simp) (AllReadyH.cons (o := ⟨some 6, _, _, _, _, _⟩) rfl (fun Kc hKc => ?_) AllReadyH.nil)
          have zhq13 := hHeld.size
          rw [if_pos (by rfl)]
          refine step_alloc 65 rfl [.int .u8 0, .int .u8 0, .int .u8 0, .int .u8 0, .int .u8 0, .int .u8 0, .int .u8 0, .int .u8 0, .int .u8 0, .int .u8 0, .int .u8 0, .int .u8 0, .int .u8 0] info_z13 ?_; intro g6 wq13 hgq13 hbq13 yq13 hzq13; have F6 := Go.Lib.hid hbq13; clear hbq13; obtain ⟨hgq13a, hgq13b⟩ := hgq13; obtain ⟨hzq13a, hzq13b⟩ := hzq13
          have zq13 := yq13.size
          have F5 := Go.Lib.hid (F5.out.keep yq13 F5.out.lt)
          refine hKc.out _ _ (hHeld.trans (yq13.mono hHeld.size)) (fun hHeld => ?_)
          clear hKc Kc
          try simp only [Act.put, List.setIfInBounds_toArray, List.set_cons_zero, List.set_cons_succ]
          refine wpAnyH_ready (rs := [6]) (by kernel_rfl) (by simp) (AllReadyH.cons (o := ⟨none, _, _, _, _, _⟩) rfl (fun Kc hKc => ?_) AllReadyH.nil)
          have zhq14 := hHeld.size
          rw [if_pos (by rfl)]
          refine step_store_any 65 _ _ rfl g5 0 65 _ (u8L (bytesT a)) _ rfl rfl rfl F5.out info_a13 (by show 0 + 13 ≤ 13; omega) (u8_one (bytesT a)) ?_; intro wq14 hbq14 hoq14; have Zq14 := Go.Lib.hid hbq14; clear hbq14
          have zq14 := hoq14.size
          have F5 : Hid (Bxo wq14 g5 65 (u8L (bytesT a))) := Go.Lib.hid Zq14.out
          have F6 := Go.Lib.hid (F6.out.only hoq14 (by omega))
          refine hKc.out _ _ (hHeld.trans (hoq14.below (by omega))) (fun hHeld => ?_)
          clear hKc Kc
          try simp only [Act.put, List.setIfInBounds_toArray, List.set_cons_zero, List.set_cons_succ]
          refine wpAnyH_ready (rs := [7]) (by kernel_rfl) (by simp) (AllReadyH.cons (o := ⟨none, _, _, _, _, _⟩) rfl (fun Kc hKc => ?_) AllReadyH.nil)
          have zhq15 := hHeld.size
          rw [if_pos (by rfl)]
          refine step_store_any 65 _ _ rfl g6 0 65 _ (u8L (bytesT b)) _ rfl rfl rfl F6.out info_a13 (by show 0 + 13 ≤ 13; omega) (u8_one (bytesT b)) ?_; intro wq15 hbq15 hoq15; have Zq15 := Go.Lib.hid hbq15; clear hbq15
          have zq15 := hoq15.size
          have F5 := Go.Lib.hid (F5.out.only hoq15 (by omega))
          have F6 : Hid (Bxo wq15 g6 65 (u8L (bytesT b))) := Go.Lib.hid Zq15.out
          refine hKc.out _ _ (hHeld.trans (hoq15.below (by omega))) (fun hHeld => ?_)
          clear hKc Kc
          try simp only [Act.put, List.setIfInBounds_toArray, List.set_cons_zero, List.set_cons_succ]
          refine wpAnyH_done (by kernel_rfl) ?_ _
          go_wp2_with fail
          go_meet
          exact ⟨g5, g6, rfl, rfl, by omega, F5.out, F6.out, y0.trans (hHeld.mono y0.size)⟩
        ·
          have zhq16 := hHeld.size
          rw [if_pos (by rfl)]
          refine step_alloc 65 rfl [.int .u8 0, .int .u8 0, .int .u8 0, .int .u8 0, .int .u8 0, .int .u8 0, .int .u8 0, .int .u8 0, .int .u8 0, .int .u8 0, .int .u8 0, .int .u8 0, .int .u8 0] info_z13 ?_; intro g6 wq16 hgq16 hbq16 yq16 hzq16; have F6 := Go.Lib.hid hbq16; clear hbq16; obtain ⟨hgq16a, hgq16b⟩ := hgq16; obtain ⟨hzq16a, hzq16b⟩ := hzq16
          have zq16 := yq16.size
          have F5 := Go.Lib.hid (F5.out.keep yq16 F5.out.lt)
          refine hKc.out _ _ (hHeld.trans (yq16.mono hHeld.size)) (fun hHeld => ?_)
          clear hKc Kc
          try simp only [Act.put, List.setIfInBounds_toArray, List.set_cons_zero, List.set_cons_succ]
          refine wpAnyH_ready (rs := [3]) (by kernel_rfl) (by simp) (AllReadyH.cons (o := ⟨some 10, _, _, _, _, _⟩) rfl (fun Kc hKc => ?_) AllReadyH.nil)
          have zhq17 := hHeld.size
          go_simp
          go_at_call 28; refine (ctold b hb wq16).mono ?_; rintro e wq17 ⟨rfl, yq17⟩; dsimp only
          have zq17 := yq17.size
          have F5 := Go.Lib.hid (F5.out.keep yq17 F5.out.lt)
          have F6 := Go.Lib.hid (F6.out.keep yq17 F6.out.lt)
          refine hKc.out _ _ (hHeld.trans (yq17.mono hHeld.size)) (fun hHeld => ?_)
          clear hKc Kc
          try simp only [Act.put, List.setIfInBounds_toArray, List.set_cons_zero, List.set_cons_succ]
          refine wpAnyH_ready (rs := [6]) (by kernel_rfl) (by simp) (AllReadyH.cons (o := ⟨none, _, _, _, _, _⟩) rfl (fun Kc hKc => ?_) AllReadyH.nil)
          have zhq18 := hHeld.size
          rw [if_pos (by rfl)]
          refine step_store_any 65 _ _ rfl g5 0 65 _ (u8L (bytesT a)) _ rfl rfl rfl F5.out info_a13 (by show 0 + 13 ≤ 13; omega) (u8_one (bytesT a)) ?_; intro wq18 hbq18 hoq18; have Zq18 := Go.Lib.hid hbq18; clear hbq18
          have zq18 := hoq18.size
          have F5 : Hid (Bxo wq18 g5 65 (u8L (bytesT a))) := Go.Lib.hid Zq18.out
          have F6 := Go.Lib.hid (F6.out.only hoq18 (by omega))
          refine hKc.out _ _ (hHeld.trans (hoq18.below (by omega))) (fun hHeld => ?_)
          clear hKc Kc
          try simp only [Act.put, List.setIfInBounds_toArray, List.set_cons_zero, List.set_cons_succ]
          refine wpAnyH_ready (rs := [7]) (by kernel_rfl) (by simp) (AllReadyH.cons (o := ⟨none, _, _, _, _, _⟩) rfl (fun Kc hKc => ?_) AllReadyH.nil)
          have zhq19 := hHeld.size
          rw [if_pos (by rfl)]
          refine step_store_any 65 _ _ rfl g6 0 65 _ (u8L (bytesT b)) _ rfl rfl rfl F6.out info_a13 (by show 0 + 13 ≤ 13; omega) (u8_one (bytesT b)) ?_; intro wq19 hbq19 hoq19; have Zq19 := Go.Lib.hid hbq19; clear hbq19
          have zq19 := hoq19.size
          have F5 := Go.Lib.hid (F5.out.only hoq19 (by omega))
          have F6 : Hid (Bxo wq19 g6 65 (u8L (bytesT b))) := Go.Lib.hid Zq19.out
          refine hKc.out _ _ (hHeld.trans (hoq19.below (by omega))) (fun hHeld => ?_)
          clear hKc Kc
          try simp only [Act.put, List.setIfInBounds_toArray, List.set_cons_zero, List.set_cons_succ]
          refine wpAnyH_done (by kernel_rfl) ?_ _
          go_wp2_with fail
          go_meet
          exact ⟨g5, g6, rfl, rfl, by omega, F5.out, F6.out, y0.trans (hHeld.mono y0.size)⟩
      ·
        have zhq20 := hHeld.size
        rw [if_pos (by rfl)]
        refine step_alloc 65 rfl [.int .u8 0, .int .u8 0, .int .u8 0, .int .u8 0, .int .u8 0, .int .u8 0, .int .u8 0, .int .u8 0, .int .u8 0, .int .u8 0, .int .u8 0, .int .u8 0, .int .u8 0] info_z13 ?_; intro g6 wq20 hgq20 hbq20 yq20 hzq20; have F6 := Go.Lib.hid hbq20; clear hbq20; obtain ⟨hgq20a, hgq20b⟩ := hgq20; obtain ⟨hzq20a, hzq20b⟩ := hzq20
        have zq20 := yq20.size
        refine hKc.out _ _ (hHeld.trans (yq20.mono hHeld.size)) (fun hHeld => ?_)
        clear hKc Kc
        try simp only [Act.put, List.setIfInBounds_toArray, List.set_cons_zero, List.set_cons_succ]
        refine wpAnyH_ready (rs := [3, 4]) (by kernel_rfl) (by simp) (AllReadyH.cons (o := ⟨some 10, _, _, _, _, _⟩) rfl (fun Kc hKc => ?_) (AllReadyH.cons (o := ⟨some 5, _, _, _, _, _⟩) rfl (fun Kc hKc => ?_) AllReadyH.nil))
        ·
          have zhq21 := hHeld.size
          go_simp
          go_at_call 28; refine (ctold b hb wq20).mono ?_; rintro e wq21 ⟨rfl, yq21⟩; dsimp only
          have zq21 := yq21.size
          have F6 := Go.Lib.hid (F6.out.keep yq21 F6.out.lt)
          refine hKc.out _ _ (hHeld.trans (yq21.mono hHeld.size)) (fun hHeld => ?_)
          clear hKc Kc
          try simp only [Act.put, List.setIfInBounds_toArray, List.set_cons_zero, List.set_cons_succ]
          refine wpAnyH_ready (rs := [4]) (by kernel_rfl) (by simp) (AllReadyH.cons (o := ⟨some 5, _, _, _, _, _⟩) rfl (fun Kc hKc => ?_) AllReadyH.nil)
          have zhq22 := hHeld.size
          rw [if_pos (by rfl)]
          refine step_alloc 65 rfl [.int .u8 0, .int .u8 0, .int .u8 0, .int .u8 0, .int .u8 0, .int .u8 0, .int .u8 0, .int .u8 0, .int .u8 0, .int .u8 0, .int .u8 0, .int .u8 0, .int .u8 0] info_z13 ?_; intro g5 wq22 hgq22 hbq22 yq22 hzq22; have F5 := Go.Lib.hid hbq22; clear hbq22; obtain ⟨hgq22a, hgq22b⟩ := hgq22; obtain ⟨hzq22a, hzq22b⟩ := hzq22
          have zq22 := yq22.size
          have F6 := Go.Lib.hid (F6.out.keep yq22 F6.out.lt)
          refine hKc.out _ _ (hHeld.trans (yq22.mono hHeld.size)) (fun hHeld => ?_)
          clear hKc Kc
          try simp only [Act.put, List.setIfInBounds_toArray, List.set_cons_zero, List.set_cons_succ]
          refine wpAnyH_ready (rs := [6]) (by kernel_rfl) (by simp) (AllReadyH.cons (o := ⟨none, _, _, _, _, _⟩) rfl (fun Kc hKc => ?_) AllReadyH.nil)
          have zhq23 := hHeld.size
          rw [if_pos (by rfl)]
          refine step_store_any 65 _ _ rfl g5 0 65 _ (u8L (bytesT a)) _ rfl rfl rfl F5.out info_a13 (by show 0 + 13 ≤ 13; omega) (u8_one (bytesT a)) ?_; intro wq23 hbq23 hoq23; have Zq23 := Go.Lib.hid hbq23; clear hbq23
          have zq23 := hoq23.size
          have F6 := Go.Lib.hid (F6.out.only hoq23 (by omega))
          have F5 : Hid (Bxo wq23 g5 65 (u8L (bytesT a))) := Go.Lib.hid Zq23.out
          refine hKc.out _ _ (hHeld.trans (hoq23.below (by omega))) (fun hHeld => ?_)
          clear hKc Kc
          try simp only [Act.put, List.setIfInBounds_toArray, List.set_cons_zero, List.set_cons_succ]
          refine wpAnyH_ready (rs := [7]) (by kernel_rfl) (by simp) (AllReadyH.cons (o := ⟨none, _, _, _, _, _⟩) rfl (fun Kc hKc => ?_) AllReadyH.nil)
          have zhq24 := hHeld.size
          rw [if_pos (by rfl)]
          refine step_store_any 65 _ _ rfl g6 0 65 _ (u8L (bytesT b)) _ rfl rfl rfl F6.out info_a13 (by show 0 + 13 ≤ 13; omega) (u8_one (bytesT b)) ?_; intro wq24 hbq24 hoq24; have Zq24 := Go.Lib.hid hbq24; clear hbq24
          have zq24 := hoq24.size
          have F6 : Hid (Bxo wq24 g6 65 (u8L (bytesT b))) := Go.Lib.hid Zq24.out
          have F5 := Go.Lib.hid (F5.out.only hoq24 (by omega))
          refine hKc.out _ _ (hHeld.trans (hoq24.below (by omega))) (fun hHeld => ?_)
          clear hKc Kc
          try simp only [Act.put, List.setIfInBounds_toArray, List.set_cons_zero, List.set_cons_succ]
          refine wpAnyH_done (by kernel_rfl) ?_ _
          go_wp2_with fail
          go_meet
          exact ⟨g5, g6, rfl, rfl, by omega, F5.out, F6.out, y0.trans (hHeld.mono y0.size)⟩
        ·
          have zhq25 := hHeld.size
          rw [if_pos (by rfl)]
          refine step_alloc 65 rfl [.int .u8 0, .int .u8 0, .int .u8 0, .int .u8 0, .int .u8 0, .int .u8 0, .int .u8 0, .int .u8 0, .int .u8 0, .int .u8 0, .int .u8 0, .int .u8 0, .int .u8 0] info_z13 ?_; intro g5 wq25 hgq25 hbq25 yq25 hzq25; have F5 := Go.Lib.hid hbq25; clear hbq25; obtain ⟨hgq25a, hgq25b⟩ := hgq25; obtain ⟨hzq25a, hzq25b⟩ := hzq25
          have zq25 := yq25.size
          have F6 := Go.Lib.hid (F6.out.keep yq25 F6.out.lt)
          refine hKc.out _ _ (hHeld.trans (yq25.mono hHeld.size)) (fun hHeld => ?_)
          clear hKc Kc
          try simp only [Act.put, List.setIfInBounds_toArray, List.set_cons_zero, List.set_cons_succ]
          refine wpAnyH_ready (rs := [3]) (by kernel_rfl) (by simp) (AllReadyH.cons (o := ⟨some 10, _, _, _, _, _⟩) rfl (fun Kc hKc => ?_) AllReadyH.nil)
          have zhq26 := hHeld.size
          go_simp
          go_at_call 28; refine (ctold b hb wq25).mono ?_; rintro e wq26 ⟨rfl, yq26⟩; dsimp only
          have zq26 := yq26.size
          have F6 := Go.Lib.hid (F6.out.keep yq26 F6.out.lt)
          have F5 := Go.Lib.hid (F5.out.keep yq26 F5.out.lt)
          refine hKc.out _ _ (hHeld.trans (yq26.mono hHeld.size)) (fun hHeld => ?_)
          clear hKc Kc
          try simp only [Act.put, List.setIfInBounds_toArray, List.set_cons_zero, List.set_cons_succ]
          refine wpAnyH_ready (rs := [6]) (by kernel_rfl) (by simp) (AllReadyH.cons (o := ⟨none, _, _, _, _, _⟩) rfl (fun Kc hKc => ?_) AllReadyH.nil)
          have zhq27 := hHeld.size
          rw [if_pos (by rfl)]
          refine step_store_any 65 _ _ rfl g5 0 65 _ (u8L (bytesT a)) _ rfl rfl rfl F5.out info_a13 (by show 0 + 13 ≤ 13; omega) (u8_one (bytesT a)) ?_; intro wq27 hbq27 hoq27; have Zq27 := Go.Lib.hid hbq27; clear hbq27
          have zq27 := hoq27.size
          have F6 := Go.Lib.hid (F6.out.only hoq27 (by omega))
          have F5 : Hid (Bxo wq27 g5 65 (u8L (bytesT a))) := Go.Lib.hid Zq27.out
          refine hKc.out _ _ (hHeld.trans (hoq27.below (by omega))) (fun hHeld => ?_)
          clear hKc Kc
          try simp only [Act.put, List.setIfInBounds_toArray, List.set_cons_zero, List.set_cons_succ]
          refine wpAnyH_ready (rs := [7]) (by kernel_rfl) (by simp) (AllReadyH.cons (o := ⟨none, _, _, _, _, _⟩) rfl (fun Kc hKc => ?_) AllReadyH.nil)
          have zhq28 := hHeld.size
          rw [if_pos (by rfl)]
          refine step_store_any 65 _ _ rfl g6 0 65 _ (u8L (bytesT b)) _ rfl rfl rfl F6.out info_a13 (by show 0 + 13 ≤ 13; omega) (u8_one (bytesT b)) ?_; intro wq28 hbq28 hoq28; have Zq28 := Go.Lib.hid hbq28; clear hbq28
          have zq28 := hoq28.size
          have F6 : Hid (Bxo wq28 g6 65 (u8L (bytesT b))) := Go.Lib.hid Zq28.out
          have F5 := Go.Lib.hid (F5.out.only hoq28 (by omega))
          refine hKc.out _ _ (hHeld.trans (hoq28.below (by omega))) (fun hHeld => ?_)
          clear hKc Kc
          try simp only [Act.put, List.setIfInBounds_toArray, List.set_cons_zero, List.set_cons_succ]
          refine wpAnyH_done (by kernel_rfl) ?_ _
          go_wp2_with fail
          go_meet
          exact ⟨g5, g6, rfl, rfl, by omega, F5.out, F6.out, y0.trans (hHeld.mono y0.size)⟩
    ·
      have zhq29 := hHeld.size
      rw [if_pos (by rfl)]
      refine step_alloc 65 rfl [.int .u8 0, .int .u8 0, .int .u8 0, .int .u8 0, .int .u8 0, .int .u8 0, .int .u8 0, .int .u8 0, .int .u8 0, .int .u8 0, .int .u8 0, .int .u8 0, .int .u8 0] info_z13 ?_; intro g5 wq29 hgq29 hbq29 yq29 hzq29; have F5 := Go.Lib.hid hbq29; clear hbq29; obtain ⟨hgq29a, hgq29b⟩ := hgq29; obtain ⟨hzq29a, hzq29b⟩ := hzq29
      have zq29 := yq29.size
      refine hKc.out _ _ (hHeld.trans (yq29.mono hHeld.size)) (fun hHeld => ?_)
      clear hKc Kc
      try simp only [Act.put, List.setIfInBounds_toArray, List.set_cons_zero, List.set_cons_succ]
      refine wpAnyH_ready (rs := [1, 5]) (by kernel_rfl) (by simp) (AllReadyH.cons (o := ⟨some 8, _, _, _, _, _⟩) rfl (fun Kc hKc => ?_) (AllReadyH.cons (o := ⟨some 6, _, _, _, _, _⟩) rfl (fun Kc hKc => ?_) AllReadyH.nil))
      ·
        have zhq30 := hHeld.size
        go_simp
        go_at_call 28; refine (ctold a ha wq29).mono ?_; rintro e wq30 ⟨rfl, yq30⟩; dsimp only
        have zq30 := yq30.size
        have F5 := Go.Lib.hid (F5.out.keep yq30 F5.out.lt)
        refine hKc.out _ _ (hHeld.trans (yq30.mono hHeld.size)) (fun hHeld => ?_)
        clear hKc Kc
        try simp only [Act.put, List.setIfInBounds_toArray, List.set_cons_zero, List.set_cons_succ]
        refine wpAnyH_ready (rs := [3, 5]) (by kernel_rfl) (by simp) (AllReadyH.cons (o := ⟨some 10, _, _, _, _, _⟩) rfl (fun Kc hKc => ?_) (AllReadyH.cons (o := ⟨some 6, _, _, _, _, _⟩) rfl (fun Kc hKc => ?_) AllReadyH.nil))
        ·
          have zhq31 := hHeld.size
          go_simp
          go_at_call 28; refine (ctold b hb wq30).mono ?_; rintro e wq31 ⟨rfl, yq31⟩; dsimp only
          have zq31 := yq31.size
          have F5 := Go.Lib.hid (F5.out.keep yq31 F5.out.lt)
          refine hKc.out _ _ (hHeld.trans (yq31.mono hHeld.size)) (fun hHeld => ?_)
          clear hKc Kc
          try simp only [Act.put, List.setIfInBounds_toArray, List.set_cons_zero, List.set_cons_succ]
          refine wpAnyH_ready (rs := [5]) (by kernel_rfl) (by simp) (AllReadyH.cons (o := ⟨some 6, _, _, _, _, _⟩) rfl (fun Kc hKc => ?_) AllReadyH.nil)
          have zhq32 := hHeld.size
          rw [if_pos (by rfl)]
          refine step_alloc 65 rfl [.int .u8 0, .int .u8 0, .int .u8 0, .int .u8 0, .int .u8 0, .int .u8 0, .int .u8 0, .int .u8 0, .int .u8 0, .int .u8 0, .int .u8 0, .int .u8 0, .int .u8 0] info_z13 ?_; intro g6 wq32 hgq32 hbq32 yq32 hzq32; have F6 := Go.Lib.hid hbq32; clear hbq32; obtain ⟨hgq32a, hgq32b⟩ := hgq32; obtain ⟨hzq32a, hzq32b⟩ := hzq32
          have zq32 := yq32.size
          have F5 := Go.Lib.hid (F5.out.keep yq32 F5.out.lt)
          refine hKc.out _ _ (hHeld.trans (yq32.mono hHeld.size)) (fun hHeld => ?_)
          clear hKc Kc
          try simp only [Act.put, List.setIfInBounds_toArray, List.set_cons_zero, List.set_cons_succ]
          refine wpAnyH_ready (rs := [6]) (by kernel_rfl) (by simp) (AllReadyH.cons (o := ⟨none, _, _, _, _, _⟩) rfl (fun Kc hKc => ?_) AllReadyH.nil)
          have zhq33 := hHeld.size
          rw [if_pos (by rfl)]
          refine step_store_any 65 _ _ rfl g5 0 65 _ (u8L (bytesT a)) _ rfl rfl rfl F5.out info_a13 (by show 0 + 13 ≤ 13; omega) (u8_one (bytesT a)) ?_; intro wq33 hbq33 hoq33; have Zq33 := Go.Lib.hid hbq33; clear hbq33
          have zq33 := hoq33.size
          have F5 : Hid (Bxo wq33 g5 65 (u8L (bytesT a))) := Go.Lib.hid Zq33.out
          have F6 := Go.Lib.hid (F6.out.only hoq33 (by omega))
          refine hKc.out _ _ (hHeld.trans (hoq33.below (by omega))) (fun hHeld => ?_)
          clear hKc Kc
          try simp only [Act.put, List.setIfInBounds_toArray, List.set_cons_zero, List.set_cons_succ]
          refine wpAnyH_ready (rs := [7]) (by kernel_rfl) (by simp) (AllReadyH.cons (o := ⟨none, _, _, _, _, _⟩) rfl (fun Kc hKc => ?_) AllReadyH.nil)
          have zhq34 := hHeld.size
          rw [if_pos (by rfl)]
          refine step_store_any 65 _ _ rfl g6 0 65 _ (u8L (bytesT b)) _ rfl rfl rfl F6.out info_a13 (by show 0 + 13 ≤ 13; omega) (u8_one (bytesT b)) ?_; intro wq34 hbq34 hoq34; have Zq34 := Go.Lib.hid hbq34; clear hbq34
          have zq34 := hoq34.size
          have F5 := Go.Lib.hid (F5.out.only hoq34 (by omega))
          have F6 : Hid (Bxo wq34 g6 65 (u8L (bytesT b))) := Go.Lib.hid Zq34.out
          refine hKc.out _ _ (hHeld.trans (hoq34.below (by omega))) (fun hHeld => ?_)
          clear hKc Kc
          try simp only [Act.put, List.setIfInBounds_toArray, List.set_cons_zero, List.set_cons_succ]
          refine wpAnyH_done (by kernel_rfl) ?_ _
          go_wp2_with fail
          go_meet
          exact ⟨g5, g6, rfl, rfl, by omega, F5.out, F6.out, y0.trans (hHeld.mono y0.size)⟩
        ·
          have zhq35 := hHeld.size
          rw [if_pos (by rfl)]
          refine step_alloc 65 rfl [.int .u8 0, .int .u8 0, .int .u8 0, .int .u8 0, .int .u8 0, .int .u8 0, .int .u8 0, .int .u8 0, .int .u8 0, .int .u8 0, .int .u8 0, .int .u8 0, .int .u8 0] info_z13 ?_; intro g6 wq35 hgq35 hbq35 yq35 hzq35; have F6 := Go.Lib.hid hbq35; clear hbq35; obtain ⟨hgq35a, hgq35b⟩ := hgq35; obtain ⟨hzq35a, hzq35b⟩ := hzq35
          have zq35 := yq35.size
          have F5 := Go.Lib.hid (F5.out.keep yq35 F5.out.lt)
          refine hKc.out _ _ (hHeld.trans (yq35.mono hHeld.size)) (fun hHeld => ?_)
          clear hKc Kc
          try simp only [Act.put, List.setIfInBounds_toArray, List.set_cons_zero, List.set_cons_succ]
          refine wpAnyH_ready (rs := [3]) (by kernel_rfl) (by simp) (AllReadyH.cons (o := ⟨some 10, _, _, _, _, _⟩) rfl (fun Kc hKc => ?_) AllReadyH.nil)
          have zhq36 := hHeld.size
          go_simp
          go_at_call 28; refine (ctold b hb wq35).mono ?_; rintro e wq36 ⟨rfl, yq36⟩; dsimp only
          have zq36 := yq36.size
          have F5 := Go.Lib.hid (F5.out.keep yq36 F5.out.lt)
          have F6 := Go.Lib.hid (F6.out.keep yq36 F6.out.lt)
          refine hKc.out _ _ (hHeld.trans (yq36.mono hHeld.size)) (fun hHeld => ?_)
          clear hKc Kc
          try simp only [Act.put, List.setIfInBounds_toArray, List.set_cons_zero, List.set_cons_succ]
          refine wpAnyH_ready (rs := [6]) (by kernel_rfl) (by simp) (AllReadyH.cons (o := ⟨none, _, _, _, _, _⟩) rfl (fun Kc hKc => ?_) AllReadyH.nil)
          have zhq37 := hHeld.size
          rw [if_pos (by rfl)]
          refine step_store_any 65 _ _ rfl g5 0 65 _ (u8L (bytesT a)) _ rfl rfl rfl F5.out info_a13 (by show 0 + 13 ≤ 13; omega) (u8_one (bytesT a)) ?_; intro wq37 hbq37 hoq37; have Zq37 := Go.Lib.hid hbq37; clear hbq37
          have zq37 := hoq37.size
          have F5 : Hid (Bxo wq37 g5 65 (u8L (bytesT a))) := Go.Lib.hid Zq37.out
          have F6 := Go.Lib.hid (F6.out.only hoq37 (by omega))
          refine hKc.out _ _ (hHeld.trans (hoq37.below (by omega))) (fun hHeld => ?_)
          clear hKc Kc
          try simp only [Act.put, List.setIfInBounds_toArray, List.set_cons_zero, List.set_cons_succ]
          refine wpAnyH_ready (rs := [7]) (by kernel_rfl) (by simp) (AllReadyH.cons (o := ⟨none, _, _, _, _, _⟩) rfl (fun Kc hKc => ?_) AllReadyH.nil)
          have zhq38 := hHeld.size
          rw [if_pos (by rfl)]
          refine step_store_any 65 _ _ rfl g6 0 65 _ (u8L (bytesT b)) _ rfl rfl rfl F6.out info_a13 (by show 0 + 13 ≤ 13; omega) (u8_one (bytesT b)) ?_; intro wq38 hbq38 hoq38; have Zq38 := Go.Lib.hid hbq38; clear hbq38
          have zq38 := hoq38.size
          have F5 := Go.Lib.hid (F5.out.only hoq38 (by omega))
          have F6 : Hid (Bxo wq38 g6 65 (u8L (bytesT b))) := Go.Lib.hid Zq38.out
          refine hKc.out _ _ (hHeld.trans (hoq38.below (by omega))) (fun hHeld => ?_)
          clear hKc Kc
          try simp only [Act.put, List.setIfInBounds_toArray, List.set_cons_zero, List.set_cons_succ]
          refine wpAnyH_done (by kernel_rfl) ?_ _
          go_wp2_with fail
          go_meet
          exact ⟨g5, g6, rfl, rfl, by omega, F5.out, F6.out, y0.trans (hHeld.mono y0.size)⟩
      ·
        have zhq39 := hHeld.size
        rw [if_pos (by rfl)]
        refine step_alloc 65 rfl [.int .u8 0, .int .u8 0, .int .u8 0, .int .u8 0, .int .u8 0, .int .u8 0, .int .u8 0, .int .u8 0, .int .u8 0, .int .u8 0, .int .u8 0, .int .u8 0, .int .u8 0] info_z13 ?_; intro g6 wq39 hgq39 hbq39 yq39 hzq39; have F6 := Go.Lib.hid hbq39; clear hbq39; obtain ⟨hgq39a, hgq39b⟩ := hgq39; obtain ⟨hzq39a, hzq39b⟩ := hzq39
        have zq39 := yq39.size
        have F5 := Go.Lib.hid (F5.out.keep yq39 F5.out.lt)
        refine hKc.out _ _ (hHeld.trans (yq39.mono hHeld.size)) (fun hHeld => ?_)
        clear hKc Kc
        try simp only [Act.put, List.setIfInBounds_toArray, List.set_cons_zero, List.set_cons_succ]
        refine wpAnyH_ready (rs := [1]) (by kernel_rfl) (by simp) (AllReadyH.cons (o := ⟨some 8, _, _, _, _, _⟩) rfl (fun Kc hKc => ?_) AllReadyH.nil)
        have zhq40 := hHeld.size
        go_simp
        go_at_call 28; refine (ctold a ha wq39).mono ?_; rintro e wq40 ⟨rfl, yq40⟩; dsimp only
        have zq40 := yq40.size
        have F5 := Go.Lib.hid (F5.out.keep yq40 F5.out.lt)
        have F6 := Go.Lib.hid (F6.out.keep yq40 F6.out.lt)
        refine hKc.out _ _ (hHeld.trans (yq40.mono hHeld.size)) (fun hHeld => ?_)
        clear hKc Kc
        try simp only [Act.put, List.setIfInBounds_toArray, List.set_cons_zero, List.set_cons_succ]
        refine wpAnyH_ready (rs := [3]) (by kernel_rfl) (by simp) (AllReadyH.cons (o := ⟨some 10, _, _, _, _, _⟩) rfl (fun Kc hKc => ?_) AllReadyH.nil)
        have zhq41 := hHeld.size
        go_simp
        go_at_call 28; refine (ctold b hb wq40).mono ?_; rintro e wq41 ⟨rfl, yq41⟩; dsimp only
        have zq41 := yq41.size
        have F5 := Go.Lib.hid (F5.out.keep yq41 F5.out.lt)
        have F6 := Go.Lib.hid (F6.out.keep yq41 F6.out.lt)
        refine hKc.out _ _ (hHeld.trans (yq41.mono hHeld.size)) (fun hHeld => ?_)
        clear hKc Kc
        try simp only [Act.put, List.setIfInBounds_toArray, List.set_cons_zero, List.set_cons_succ]
        refine wpAnyH_ready (rs := [6]) (by kernel_rfl) (by simp) (AllReadyH.cons (o := ⟨none, _, _, _, _, _⟩) rfl (fun Kc hKc => ?_) AllReadyH.nil)
        have zhq42 := hHeld.size
        rw [if_pos (by rfl)]
        refine step_store_any 65 _ _ rfl g5 0 65 _ (u8L (bytesT a)) _ rfl rfl rfl F5.out info_a13 (by show 0 + 13 ≤ 13; omega) (u8_one (bytesT a)) ?_; intro wq42 hbq42 hoq42; have Zq42 := Go.Lib.hid hbq42; clear hbq42
        have zq42 := hoq42.size
        have F5 : Hid (Bxo wq42 g5 65 (u8L (bytesT a))) := Go.Lib.hid Zq42.out
        have F6 := Go.Lib.hid (F6.out.only hoq42 (by omega))
        refine hKc.out _ _ (hHeld.trans (hoq42.below (by omega))) (fun hHeld => ?_)
        clear hKc Kc
        try simp only [Act.put, List.setIfInBounds_toArray, List.set_cons_zero, List.set_cons_succ]
        refine wpAnyH_ready (rs := [7]) (by kernel_rfl) (by simp) (AllReadyH.cons (o := ⟨none, _, _, _, _, _⟩) rfl (fun Kc hKc => ?_) AllReadyH.nil)
        have zhq43 := hHeld.size
        rw [if_pos (by rfl)]
        refine step_store_any 65 _ _ rfl g6 0 65 _ (u8L (bytesT b)) _ rfl rfl rfl F6.out info_a13 (by show 0 + 13 ≤ 13; omega) (u8_one (bytesT b)) ?_; intro wq43 hbq43 hoq43; have Zq43 := Go.Lib.hid hbq43; clear hbq43
        have zq43 := hoq43.size
        have F5 := Go.Lib.hid (F5.out.only hoq43 (by omega))
        have F6 : Hid (Bxo wq43 g6 65 (u8L (bytesT b))) := Go.Lib.hid Zq43.out
        refine hKc.out _ _ (hHeld.trans (hoq43.below (by omega))) (fun hHeld => ?_)
        clear hKc Kc
        try simp only [Act.put, List.setIfInBounds_toArray, List.set_cons_zero, List.set_cons_succ]
        refine wpAnyH_done (by kernel_rfl) ?_ _
        go_wp2_with fail
        go_meet
        exact ⟨g5, g6, rfl, rfl, by omega, F5.out, F6.out, y0.trans (hHeld.mono y0.size)⟩
    ·
      have zhq44 := hHeld.size
      rw [if_pos (by rfl)]
      refine step_alloc 65 rfl [.int .u8 0, .int .u8 0, .int .u8 0, .int .u8 0, .int .u8 0, .int .u8 0, .int .u8 0, .int .u8 0, .int .u8 0, .int .u8 0, .int .u8 0, .int .u8 0, .int .u8 0] info_z13 ?_; intro g6 wq44 hgq44 hbq44 yq44 hzq44; have F6 := Go.Lib.hid hbq44; clear hbq44; obtain ⟨hgq44a, hgq44b⟩ := hgq44; obtain ⟨hzq44a, hzq44b⟩ := hzq44
      have zq44 := yq44.size
      refine hKc.out _ _ (hHeld.trans (yq44.mono hHeld.size)) (fun hHeld => ?_)
      clear hKc Kc
      try simp only [Act.put, List.setIfInBounds_toArray, List.set_cons_zero, List.set_cons_succ]
      refine wpAnyH_ready (rs := [1, 4]) (by kernel_rfl) (by simp) (AllReadyH.cons (o := ⟨some 8, _, _, _, _, _⟩) rfl (fun Kc hKc => ?_) (AllReadyH.cons (o := ⟨some 5, _, _, _, _, _⟩) rfl (fun Kc hKc => ?_) AllReadyH.nil))
      ·
        have zhq45 := hHeld.size
        go_simp
        go_at_call 28; refine (ctold a ha wq44).mono ?_; rintro e wq45 ⟨rfl, yq45⟩; dsimp only
        have zq45 := yq45.size
        have F6 := Go.Lib.hid (F6.out.keep yq45 F6.out.lt)
        refine hKc.out _ _ (hHeld.trans (yq45.mono hHeld.size)) (fun hHeld => ?_)
        clear hKc Kc
        try simp only [Act.put, List.setIfInBounds_toArray, List.set_cons_zero, List.set_cons_succ]
        refine wpAnyH_ready (rs := [3, 4]) (by kernel_rfl) (by simp) (AllReadyH.cons (o := ⟨some 10, _, _, _, _, _⟩) rfl (fun Kc hKc => ?_) (AllReadyH.cons (o := ⟨some 5, _, _, _, _, _⟩) rfl (fun Kc hKc => ?_) AllReadyH.nil))
        ·
          have zhq46 := hHeld.size
          go_simp
          go_at_call 28; refine (ctold b hb wq45).mono ?_; rintro e wq46 ⟨rfl, yq46⟩; dsimp only
          have zq46 := yq46.size
          have F6 := Go.Lib.hid (F6.out.keep yq46 F6.out.lt)
          refine hKc.out _ _ (hHeld.trans (yq46.mono hHeld.size)) (fun hHeld => ?_)
          clear hKc Kc
          try simp only [Act.put, List.setIfInBounds_toArray, List.set_cons_zero, List.set_cons_succ]
          refine wpAnyH_ready (rs := [4]) (by kernel_rfl) (by simp) (AllReadyH.cons (o := ⟨some 5, _, _, _, _, _⟩) rfl (fun Kc hKc => ?_) AllReadyH.nil)
          have zhq47 := hHeld.size
          rw [if_pos (by rfl)]
          refine step_alloc 65 rfl [.int .u8 0, .int .u8 0, .int .u8 0, .int .u8 0, .int .u8 0, .int .u8 0, .int .u8 0, .int .u8 0, .int .u8 0, .int .u8 0, .int .u8 0, .int .u8 0, .int .u8 0] info_z13 ?_; intro g5 wq47 hgq47 hbq47 yq47 hzq47; have F5 := Go.Lib.hid hbq47; clear hbq47; obtain ⟨hgq47a, hgq47b⟩ := hgq47; obtain ⟨hzq47a, hzq47b⟩ := hzq47
          have zq47 := yq47.size
          have F6 := Go.Lib.hid (F6.out.keep yq47 F6.out.lt)
          refine hKc.out _ _ (hHeld.trans (yq47.mono hHeld.size)) (fun hHeld => ?_)
          clear hKc Kc
          try simp only [Act.put, List.setIfInBounds_toArray, List.set_cons_zero, List.set_cons_succ]
          refine wpAnyH_ready (rs := [6]) (by kernel_rfl) (by simp) (AllReadyH.cons (o := ⟨none, _, _, _, _, _⟩) rfl (fun Kc hKc => ?_) AllReadyH.nil)
          have zhq48 := hHeld.size
          rw [if_pos (by rfl)]
          refine step_store_any 65 _ _ rfl g5 0 65 _ (u8L (bytesT a)) _ rfl rfl rfl F5.out info_a13 (by show 0 + 13 ≤ 13; omega) (u8_one (bytesT a)) ?_; intro wq48 hbq48 hoq48; have Zq48 := Go.Lib.hid hbq48; clear hbq48
          have zq48 := hoq48.size
          have F6 := Go.Lib.hid (F6.out.only hoq48 (by omega))
          have F5 : Hid (Bxo wq48 g5 65 (u8L (bytesT a))) := Go.Lib.hid Zq48.out
          refine hKc.out _ _ (hHeld.trans (hoq48.below (by omega))) (fun hHeld => ?_)
          clear hKc Kc
          try simp only [Act.put, List.setIfInBounds_toArray, List.set_cons_zero, List.set_cons_succ]
          refine wpAnyH_ready (rs := [7]) (by kernel_rfl) (by simp) (AllReadyH.cons (o := ⟨none, _, _, _, _, _⟩) rfl (fun Kc hKc => ?_) AllReadyH.nil)
          have zhq49 := hHeld.size
          rw [if_pos (by rfl)]
          refine step_store_any 65 _ _ rfl g6 0 65 _ (u8L (bytesT b)) _ rfl rfl rfl F6.out info_a13 (by show 0 + 13 ≤ 13; omega) (u8_one (bytesT b)) ?_; intro wq49 hbq49 hoq49; have Zq49 := Go.Lib.hid hbq49; clear hbq49
          have zq49 := hoq49.size
          have F6 : Hid (Bxo wq49 g6 65 (u8L (bytesT b))) := Go.Lib.hid Zq49.out
          have F5 := Go.Lib.hid (F5.out.only hoq49 (by omega))
          refine hKc.out _ _ (hHeld.trans (hoq49.below (by omega))) (fun hHeld => ?_)
          clear hKc Kc
          try simp only [Act.put, List.setIfInBounds_toArray, List.set_cons_zero, List.set_cons_succ]
          refine wpAnyH_done (by kernel_rfl) ?_ _
          go_wp2_with fail
          go_meet
          exact ⟨g5, g6, rfl, rfl, by omega, F5.out, F6.out, y0.trans (hHeld.mono y0.size)⟩
        ·
          have zhq50 := hHeld.size
          rw [if_pos (by rfl)]
          refine step_alloc 65 rfl [.int .u8 0, .int .u8 0, .int .u8 0, .int .u8 0, .int .u8 0, .int .u8 0, .int .u8 0, .int .u8 0, .int .u8 0, .int .u8 0, .int .u8 0, .int .u8 0, .int .u8 0] info_z13 ?_; intro g5 wq50 hgq50 hbq50 yq50 hzq50; have F5 := Go.Lib.hid hbq50; clear hbq50; obtain ⟨hgq50a, hgq50b⟩ := hgq50; obtain ⟨hzq50a, hzq50b⟩ := hzq50
          have zq50 := yq50.size
          have F6 := Go.Lib.hid (F6.out.keep yq50 F6.out.lt)
          refine hKc.out _ _ (hHeld.trans (yq50.mono hHeld.size)) (fun hHeld => ?_)
          clear hKc Kc
          try simp only [Act.put, List.setIfInBounds_toArray, List.set_cons_zero, List.set_cons_succ]
          refine wpAnyH_ready (rs := [3]) (by kernel_rfl) (by simp) (AllReadyH.cons (o := ⟨some 10, _, _, _, _, _⟩) rfl (fun Kc hKc => ?_) AllReadyH.nil)
          have zhq51 := hHeld.size
          go_simp
          go_at_call 28; refine (ctold b hb wq50).mono ?_; rintro e wq51 ⟨rfl, yq51⟩; dsimp only
          have zq51 := yq51.size
          have F6 := Go.Lib.hid (F6.out.keep yq51 F6.out.lt)
          have F5 := Go.Lib.hid (F5.out.keep yq51 F5.out.lt)
          refine hKc.out _ _ (hHeld.trans (yq51.mono hHeld.size)) (fun hHeld => ?_)
          clear hKc Kc
          try simp only [Act.put, List.setIfInBounds_toArray, List.set_cons_zero, List.set_cons_succ]
          refine wpAnyH_ready (rs := [6]) (by kernel_rfl) (by simp) (AllReadyH.cons (o := ⟨none, _, _, _, _, _⟩) rfl (fun Kc hKc => ?_) AllReadyH.nil)
          have zhq52 := hHeld.size
          rw [if_pos (by rfl)]
          refine step_store_any 65 _ _ rfl g5 0 65 _ (u8L (bytesT a)) _ rfl rfl rfl F5.out info_a13 (by show 0 + 13 ≤ 13; omega) (u8_one (bytesT a)) ?_; intro wq52 hbq52 hoq52; have Zq52 := Go.Lib.hid hbq52; clear hbq52
          have zq52 := hoq52.size
          have F6 := Go.Lib.hid (F6.out.only hoq52 (by omega))
          have F5 : Hid (Bxo wq52 g5 65 (u8L (bytesT a))) := Go.Lib.hid Zq52.out
          refine hKc.out _ _ (hHeld.trans (hoq52.below (by omega))) (fun hHeld => ?_)
          clear hKc Kc
          try simp only [Act.put, List.setIfInBounds_toArray, List.set_cons_zero, List.set_cons_succ]
          refine wpAnyH_ready (rs := [7]) (by kernel_rfl) (by simp) (AllReadyH.cons (o := ⟨none, _, _, _, _, _⟩) rfl (fun Kc hKc => ?_) AllReadyH.nil)
          have zhq53 := hHeld.size
          rw [if_pos (by rfl)]
          refine step_store_any 65 _ _ rfl g6 0 65 _ (u8L (bytesT b)) _ rfl rfl rfl F6.out info_a13 (by show 0 + 13 ≤ 13; omega) (u8_one (bytesT b)) ?_; intro wq53 hbq53 hoq53; have Zq53 := Go.Lib.hid hbq53; clear hbq53
          have zq53 := hoq53.size
          have F6 : Hid (Bxo wq53 g6 65 (u8L (bytesT b))) := Go.Lib.hid Zq53.out
          have F5 := Go.Lib.hid (F5.out.only hoq53 (by omega))
          refine hKc.out _ _ (hHeld.trans (hoq53.below (by omega))) (fun hHeld => ?_)
          clear hKc Kc
          try simp only [Act.put, List.setIfInBounds_toArray, List.set_cons_zero, List.set_cons_succ]
          refine wpAnyH_done (by kernel_rfl) ?_ _
          go_wp2_with fail
          go_meet
          exact ⟨g5, g6, rfl, rfl, by omega, F5.out, F6.out, y0.trans (hHeld.mono y0.size)⟩
      ·
        have zhq54 := hHeld.size
        rw [if_pos (by rfl)]
        refine step_alloc 65 rfl [.int .u8 0, .int .u8 0, .int .u8 0, .int .u8 0, .int .u8 0, .int .u8 0, .int .u8 0, .int .u8 0, .int .u8 0, .int .u8 0, .int .u8 0, .int .u8 0, .int .u8 0] info_z13 ?_; intro g5 wq54 hgq54 hbq54 yq54 hzq54; have F5 := Go.Lib.hid hbq54; clear hbq54; obtain ⟨hgq54a, hgq54b⟩ := hgq54; obtain ⟨hzq54a, hzq54b⟩ := hzq54
        have zq54 := yq54.size
        have F6 := Go.Lib.hid (F6.out.keep yq54 F6.out.lt)
        refine hKc.out _ _ (hHeld.trans (yq54.mono hHeld.size)) (fun hHeld => ?_)
        clear hKc Kc
        try simp only [Act.put, List.setIfInBounds_toArray, List.set_cons_zero, List.set_cons_succ]
        refine wpAnyH_ready (rs := [1]) (by kernel_rfl) (by simp) (AllReadyH.cons (o := ⟨some 8, _, _, _, _, _⟩) rfl (fun Kc hKc => ?_) AllReadyH.nil)
        have zhq55 := hHeld.size
        go_simp
        go_at_call 28; refine (ctold a ha wq54).mono ?_; rintro e wq55 ⟨rfl, yq55⟩; dsimp only
        have zq55 := yq55.size
        have F6 := Go.Lib.hid (F6.out.keep yq55 F6.out.lt)
        have F5 := Go.Lib.hid (F5.out.keep yq55 F5.out.lt)
        refine hKc.out _ _ (hHeld.trans (yq55.mono hHeld.size)) (fun hHeld => ?_)
        clear hKc Kc
        try simp only [Act.put, List.setIfInBounds_toArray, List.set_cons_zero, List.set_cons_succ]
        refine wpAnyH_ready (rs := [3]) (by kernel_rfl) (by simp) (AllReadyH.cons (o := ⟨some 10, _, _, _, _, _⟩) rfl (fun Kc hKc => ?_) AllReadyH.nil)
        have zhq56 := hHeld.size
        go_simp
        go_at_call 28; refine (ctold b hb wq55).mono ?_; rintro e wq56 ⟨rfl, yq56⟩; dsimp only
        have zq56 := yq56.size
        have F6 := Go.Lib.hid (F6.out.keep yq56 F6.out.lt)
        have F5 := Go.Lib.hid (F5.out.keep yq56 F5.out.lt)
        refine hKc.out _ _ (hHeld.trans (yq56.mono hHeld.size)) (fun hHeld => ?_)
        clear hKc Kc
        try simp only [Act.put, List.setIfInBounds_toArray, List.set_cons_zero, List.set_cons_succ]
        refine wpAnyH_ready (rs := [6]) (by kernel_rfl) (by simp) (AllReadyH.cons (o := ⟨none, _, _, _, _, _⟩) rfl (fun Kc hKc => ?_) AllReadyH.nil)
        have zhq57 := hHeld.size
        rw [if_pos (by rfl)]
        refine step_store_any 65 _ _ rfl g5 0 65 _ (u8L (bytesT a)) _ rfl rfl rfl F5.out info_a13 (by show 0 + 13 ≤ 13; omega) (u8_one (bytesT a)) ?_; intro wq57 hbq57 hoq57; have Zq57 := Go.Lib.hid hbq57; clear hbq57
        have zq57 := hoq57.size
        have F6 := Go.Lib.hid (F6.out.only hoq57 (by omega))
        have F5 : Hid (Bxo wq57 g5 65 (u8L (bytesT a))) := Go.Lib.hid Zq57.out
        refine hKc.out _ _ (hHeld.trans (hoq57.below (by omega))) (fun hHeld => ?_)
        clear hKc Kc
        try simp only [Act.put, List.setIfInBounds_toArray, List.set_cons_zero, List.set_cons_succ]
        refine wpAnyH_ready (rs := [7]) (by kernel_rfl) (by simp) (AllReadyH.cons (o := ⟨none, _, _, _, _, _⟩) rfl (fun Kc hKc => ?_) AllReadyH.nil)
        have zhq58 := hHeld.size
        rw [if_pos (by rfl)]
        refine step_store_any 65 _ _ rfl g6 0 65 _ (u8L (bytesT b)) _ rfl rfl rfl F6.out info_a13 (by show 0 + 13 ≤ 13; omega) (u8_one (bytesT b)) ?_; intro wq58 hbq58 hoq58; have Zq58 := Go.Lib.hid hbq58; clear hbq58
        have zq58 := hoq58.size
        have F6 : Hid (Bxo wq58 g6 65 (u8L (bytesT b))) := Go.Lib.hid Zq58.out
        have F5 := Go.Lib.hid (F5.out.only hoq58 (by omega))
        refine hKc.out _ _ (hHeld.trans (hoq58.below (by omega))) (fun hHeld => ?_)
        clear hKc Kc
        try simp only [Act.put, List.setIfInBounds_toArray, List.set_cons_zero, List.set_cons_succ]
        refine wpAnyH_done (by kernel_rfl) ?_ _
        go_wp2_with fail
        go_meet
        exact ⟨g5, g6, rfl, rfl, by omega, F5.out, F6.out, y0.trans (hHeld.mono y0.size)⟩
  case rest =>
    obtain ⟨g5, g6, rfl, rfl, hne, h5, h6, y3⟩ := hcut
    rename World => W3
    have F5 := Go.Lib.hid h5
    have F6 := Go.Lib.hid h6
    clear h5 h6 HA HB y0
    go_upto_region 2 with fail
    try simp only [Act.put, List.setIfInBounds_toArray, List.set_cons_zero, List.set_cons_succ]
    refine wp_region_held_drew (S := fun Y => Below W3.heap.size W3 Y) (by kernel_rfl) ?_ (fun hHeld => ?_)
    · exact below_drew (Below.refl _ _)
    refine wpAnyH_take (i := 0) (oi := ⟨some 11, _, _, _, _, _⟩) (v := ?_) rfl (by kernel_rfl) (by kernel_rfl) (by kernel_rfl) (fun _ _ _ h => h) (Or.inl ⟨by rfl, ?_⟩) (by assumption) ?_
    rotate_left
    · intro w hSw; (try dsimp only at hSw); go_simp; (try with_reducible rfl)
    try simp only [Act.put, List.setIfInBounds_toArray, List.set_cons_zero, List.set_cons_succ]
    refine wpAnyH_take (i := 1) (oi := ⟨some 12, _, _, _, _, _⟩) (v := ?_) rfl (by kernel_rfl) (by kernel_rfl) (by kernel_rfl) (fun _ _ _ h => h) (Or.inl ⟨by rfl, ?_⟩) (by assumption) ?_
    rotate_left
    · intro w hSw; (try dsimp only at hSw); go_simp; (try with_reducible rfl)
    try simp only [Act.put, List.setIfInBounds_toArray, List.set_cons_zero, List.set_cons_succ]
    refine wpAnyH_ready (rs := [2]) (by kernel_rfl) (by simp) (AllReadyH.cons (o := ⟨some 13, _, _, _, _, _⟩) rfl (fun Kc hKc => ?_) AllReadyH.nil)
    go_simp
    go_at_call 30; refine (ccompare _ g5 g6 a b F5.out.drew F6.out.drew).mono ?_; rintro e wl ⟨rfl, rfl⟩; dsimp only; rw [HC.out]
    refine hKc.out _ _ (hHeld) (fun hHeld => ?_)
    clear hKc Kc
    try simp only [Act.put, List.setIfInBounds_toArray, List.set_cons_zero, List.set_cons_succ]
    refine wpAnyH_take (i := 3) (oi := ⟨some 14, _, _, _, _, _⟩) (v := ?_) rfl (by kernel_rfl) (by kernel_rfl) (by kernel_rfl) (fun _ _ _ h => h) (Or.inl ⟨by rfl, ?_⟩) (by assumption) ?_
    rotate_left
    · intro w hSw; (try dsimp only at hSw); go_simp; (try with_reducible rfl)
    try simp only [Act.put, List.setIfInBounds_toArray, List.set_cons_zero, List.set_cons_succ]
    refine wpAnyH_take (i := 4) (oi := ⟨some 4, _, _, _, _, _⟩) (v := ?_) rfl (by kernel_rfl) (by kernel_rfl) (by kernel_rfl) (fun _ _ _ h => h) (Or.inl ⟨by rfl, ?_⟩) (by assumption) ?_
    rotate_left
    · intro w hSw; (try dsimp only at hSw); go_simp; (try with_reducible rfl)
    try simp only [Act.put, List.setIfInBounds_toArray, List.set_cons_zero, List.set_cons_succ]
    refine wpAnyH_done (by kernel_rfl) ?_ _
    go_wp2
    go_ret
    exact ⟨ret_bool HD.out, below_drew y3⟩
end Go.Proofs.Ytmgkkgpdnopeaaa

/- Contracts of package tuple: Hash. -/
namespace Go.Proofs.Ytmgkkgpdnopeaaa
open Go.ChangeShapes Go.WideShapes Go.ChangeAt Go.RowKit
set_option linter.unusedVariables false
set_option linter.unusedSimpArgs false

theorem index_u8 (l : List Int) (h : l.length = 13) (k : Nat) (hk : k < 13) (w : World) : (Instr.index 65 (.agg (u8L l).toArray) (.int .i64 (k : Int))).run Try.prog w = .ok (.int .u8 (l[k]'(by omega))) w := by
  obtain ⟨i0, hi⟩ : ∃ i0, Try.prog.info? 5 = some i0 := Option.isSome_iff_exists.1 (by kernel_rfl)
  exact run_index_arr _ _ 13 .u8 i0 _ k _ (by kernel_rfl) Try.underlying5 hi (by kernel_rfl) hk (by simp [u8L, h, hk]) w
set_option maxRecDepth 100000 in
set_option maxHeartbeats 4000000 in
theorem chash9 : HashC9 := by
  intro t seed w q hq ht s0 s1
  have HQ : Hid (hashL (bits .xor .u32 2166136261 seed) ((bytesT t).drop 0) = q) := Go.Lib.hid (by rw [List.drop_zero]; exact hq)
  have HR := Go.Lib.hid (bytesT_rng t ht)
  have hl : (bytesT t).length = 13 := by simp [bytesT]
  have y0 : Below w.heap.size w (w.alloc (oTp t)) := (Below.refl _ _).alloc (Nat.le_refl _) _
  have h1 := Bxo.made w 27 (tpL t)
  clear hq s0 s1
  go_enter Try.func15, Try.ntmps15
  go_upto_region 1 with fail
  generalize w.alloc (oTp t) = W at *
  have HA := Go.Lib.hid h1
  clear h1
  go_wp2_with (first
    | (refine wpList_load_box rfl 27 _ rfl w.heap.size rfl (tpL t) _ HA.out Try.underlying27 rfl info_tp ?_)
    | (go_at_call 28; refine (ctold t ht W).mono ?_; rintro e w1 ⟨rfl, y1⟩; dsimp only))
  have y2 := y0.trans (y1.mono y0.size)
  clear y0 y1 HA ht
  have HI := Go.Lib.hid (index_u8 (bytesT t) hl)
  have HL := Go.Lib.hid hl
  generalize harr : (u8L (bytesT t)).toArray = arr at *
  clear harr
  generalize bytesT t = l at *
  go_loop [5, 12] (fun h i => ∃ (k : Nat) (x : Int), k ≤ 13 ∧ i = .int .i64 k ∧ h = .int .u32 x ∧ Hid (hashL x (l.drop k) = q)) (fun h i => 13 - (intOf i).toNat)
  case atStart => exact ⟨0, _, by omega, rfl, rfl, HQ⟩
  case round =>
    obtain ⟨k, x, hk, rfl, rfl, HM⟩ := hrel
    clear HQ
    by_cases hlt : k < 13
    · have hlk : k < l.length := by have := HL.out; omega
      have hi := HI.out k hlt
      have hst := List.drop_eq_getElem_cons hlk
      obtain ⟨n0, n1⟩ := HR.out l[k] (List.getElem_mem hlk)
      have i1 : (0 : Int) ≤ (k : Int) := by omega
      have i2 : (k : Int) < 13 := by omega
      generalize l[k] = n at *
      have HX : Hid (hashL x (n :: l.drop (k + 1)) = q) := Go.Lib.hid (by rw [← hst]; exact HM.out)
      clear hst HM hlk
      have e4 : IntKind.u32.wrap n = n := IntWalk.u32_in _ (by omega)
      have e5 : IntKind.i64.wrap ((k : Int) + 1) = (k : Int) + 1 := IntWalk.i64_in _ (by omega)
      go_wp2_with fail
      go_round
      case rel => exact ⟨k + 1, hashS x n, by omega, by go_num, rfl, Go.Lib.hid (by have := HX.out; rwa [hashL_cons] at this)⟩
      case measure => simp [intOf]; omega
    · obtain rfl : k = 13 := by omega
      have hd : l.drop 13 = [] := List.drop_eq_nil_of_le (by have := HL.out; omega)
      have HZ : Hid (x = q) := Go.Lib.hid (by have h := HM.out; rw [hd] at h; exact h)
      clear hd HM
      go_wp2
      go_ret
      exact ⟨ret_int HZ.out, y2⟩
end Go.Proofs.Ytmgkkgpdnopeaaa

/- Structs of one-cell fields among the arguments, opened: any number of fields; a packet. No condition. -/
namespace Go.Proofs.Ytmgkkgpdnopeaaa
open Go.ChangeShapes Go.WideShapes Go.ChangeAt Go.RowKit
set_option linter.unusedVariables false

section
variable {H : Type} {enc : TypeId × Value → H} {P : Program} {w : World} {base : Nat} {spare : Nat → Bool} {held : Bool}
/-- a struct by value: its cells, each read by its field's type. -/
theorem open_struct {r : Reach} {b0 : Nat} {t : TypeId} {fs : Array Field} {v : Value} {d : DataW H} {ps : List MemPlace} (hs : P.underlying t = some (.struct fs)) (hone : Go.Deep.oneCellFields P fs = true) (hC : P.cellsOf t = fs.size)
    (hv : Value.okWide P w r b0 t v) (h : DataW.Trod enc P w base spare held t v d ps) :
    ∃ cs : List Value, v = .agg cs.toArray ∧ cs.length = fs.size ∧ ∀ (j : Nat) (f : Field) (c : Value), fs[j]? = some f → cs[j]? = some c → ∃ (y : DataW H × List MemPlace) (n : Nat), DataW.trod enc P w base spare held n f.type [c] = some y := by
  obtain ⟨cs, rfl, hsz⟩ := okWide_struct hs hv
  obtain ⟨fuel, hf⟩ := h
  obtain ⟨xs, n, _, hx, _, hlen, hg⟩ := DataW.trod_struct hs hf
  refine ⟨cs.toList, by simp, by simpa using hsz.trans hC, fun j f c hj hc => ?_⟩
  obtain ⟨ho, hk⟩ := Go.Deep.hone_of hone j f hj
  have hjl : j < fs.size := (Array.getElem?_eq_some_iff.1 hj).1
  have hjc : j < cs.size := by rw [hsz, hC]; exact hjl
  have h1 := hg j f hj
  have e : cs.toList[j]? = some cs[j] := by rw [Array.getElem?_toList, Array.getElem?_eq_getElem hjc]
  rw [ho, hk] at h1
  have hone' : ((Value.agg cs).cells.toList.drop j).take 1 = [cs[j]] := by
    show (cs.toList.drop j).take 1 = _
    rw [List.drop_eq_getElem_cons (by simpa using hjc)]
    simp
  rw [hone'] at h1
  obtain rfl := Option.some.inj (hc.symm.trans e)
  exact ⟨xs[j]'(by omega), n, by rw [h1]; exact List.getElem?_eq_getElem (by omega)⟩
/-- a field that is a slice of bytes. -/
theorem bytes_field {t e : TypeId} {n : Nat} {c : Value} {y : DataW H × List MemPlace} (ht : P.underlying t = some (.slice e)) (he : P.underlying e = some (.int .u8)) (hc : P.cellsOf e = 1) (hf : DataW.trod enc P w base spare held n t [c] = some y) :
    ∃ (A : Option Addr) (l : List UInt8) (cp : Nat), c = .slice A l.length cp ∧ l.length ≤ cp ∧ cp ≤ 9223372036854775807 ∧ (A = none → cp = 0) ∧ Bs w w.heap.size A l := by
  rcases open_ints ht he hc hf with ⟨hcs, _⟩ | ⟨a, len', cap', zs, hcs, _, hl, hm, hz, _, hcell, hwz⟩
  · simp at hcs
    subst hcs
    exact ⟨none, [], 0, rfl, by simp, by omega, fun _ => rfl, .inl rfl⟩
  · simp at hcs
    subst hcs
    have hlz : len' ≤ zs.length := by rw [hz]; split <;> omega
    have hll : ((zs.take len').map fun n => UInt8.ofNat n.toNat).length = len' := by simp; omega
    unfold maxLen at hm
    refine ⟨some a, (zs.take len').map fun n => UInt8.ofNat n.toNat, cap', by rw [hll], by omega, by omega, fun h => (by cases h), ?_⟩
    by_cases h0 : len' = 0
    · subst h0; exact .inl (by simp)
    · have hc0 := hcell 0 (by omega)
      have hlt := World.block_lt_of_cell? w _ hc0
      rw [block_add] at hlt
      refine .inr ⟨a, rfl, hlt, fun j b hj => ?_⟩
      rw [List.getElem?_map, Option.map_eq_some_iff] at hj
      obtain ⟨n, hn, rfl⟩ := hj
      rw [List.getElem?_take] at hn
      split at hn
      · rename_i hjl
        have hjz : j < zs.length := by omega
        rw [List.getElem?_eq_getElem hjz] at hn
        obtain rfl := Option.some.inj hn
        rw [hcell j hjz]
        have hw := hwz zs[j] (List.getElem_mem hjz)
        simp only [Lit.wf, Bool.and_eq_true, decide_eq_true_eq] at hw
        have hw0 : 0 ≤ zs[j] ∧ zs[j] ≤ 255 := hw
        have hg : zs.getD j 0 = zs[j] := by simp [List.getD, hjz]
        rw [hg, UInt8.toNat_ofNat_of_lt' (by show _ < 256; omega)]
        congr 2; omega
      · cases hn
theorem int_field {t : TypeId} {k : IntKind} {n : Nat} {c : Value} {y : DataW H × List MemPlace} (ht : P.underlying t = some (.int k)) (hf : DataW.trod enc P w base spare held n t [c] = some y) : ∃ x : Int, c = .int k x ∧ (Lit.int k x).wf = true := by
  obtain ⟨x, h, _, hw⟩ := DataW.trod_int ht hf
  exact ⟨x, by simpa using h, hw⟩
theorem bool_field {t : TypeId} {n : Nat} {c : Value} {y : DataW H × List MemPlace} (ht : P.underlying t = some .bool) (hf : DataW.trod enc P w base spare held n t [c] = some y) : ∃ b : Bool, c = .bool b := by
  obtain ⟨b, h, _⟩ := DataW.trod_bool ht hf
  exact ⟨b, by simpa using h⟩
end
end Go.Proofs.Ytmgkkgpdnopeaaa
