/- Lemmas, several texts in one. -/
import Derived.Test.YtoghcefamoefpaaGreatDoorQ07
import Derived.Test.YtoghcefamoefpaaGreatDoorQ01
import Derived.Test.YtoghcefamoefpaaGreatDoorQ02
import Derived.Deep.RegionHeld3
import Derived.Deep.DeepCutAuto
/- The landed conf: forwardsMayBe. -/
namespace Go.Proofs.YtoghcefamoefpaaGreatDoor
open Go.ChangeShapes Go.WideShapes Go.ChangeAt Go.RowKit
set_option linter.unusedVariables false
set_option linter.unusedSimpArgs false

theorem newF_any {l : List Fw} {k : Nat} (hk : k < l.length) : newF l k = !(l.take k).any (sameFP · (atF l k)) := by
  unfold newF
  rw [Bool.eq_iff_iff, List.all_eq_true, Bool.not_eq_true', List.any_eq_false]
  constructor
  · intro h x hx
    obtain ⟨j, hj, rfl⟩ := List.getElem_of_mem hx
    rw [List.length_take] at hj
    have h1 := h j (List.mem_range.2 (by omega))
    rw [atF_get (show j < l.length by omega)] at h1
    rw [List.getElem_take]
    simpa using h1
  · intro h j hj
    rw [List.mem_range] at hj
    have h1 := h ((l.take k)[j]'(by rw [List.length_take]; omega)) (List.getElem_mem _)
    rw [List.getElem_take] at h1
    rw [atF_get (show j < l.length by omega)]
    simpa using h1
theorem rightFw_no {lo hi : Int} {l : List Fw} {q : Bool} (hq : rightFw lo hi l = q) {k : Nat} (hk : k < l.length) (h : okAtF lo hi l k = false) : q = false := by
  rw [← hq]
  unfold rightFw
  rw [List.all_eq_false]
  exact ⟨k, List.mem_range.2 hk, by rw [h]; simp⟩
set_option maxRecDepth 100000 in
set_option maxHeartbeats 8000000 in
theorem cfmb15 (c : Cf) (p : Cfm) (w : World) (h : CfAt w c p) (q : Bool) (hq : rightFw c.lo c.hi c.fwds = q) : Calls Tryz.prog 28 #[cfV c p] w fun e w' => e = .returned (.bool q) ∧ Below w.heap.size w w' := by
  have hf := h.fwds
  obtain ⟨routes, rules, outside, pub, lo, hi, fwds, tcp, other, budget⟩ := c
  obtain ⟨A1, c1, A2, c2, A3, c3⟩ := p
  dsimp only at hf hq
  have HQ0 := Go.Lib.hid hq
  have HC := Go.Lib.hid hf
  have hlc := hf.len
  have hcc := hf.cap
  have y0 : Below w.heap.size w (w.alloc (oCf ⟨routes, rules, outside, pub, lo, hi, fwds, tcp, other, budget⟩ ⟨A1, c1, A2, c2, A3, c3⟩)) := (Below.refl _ _).alloc (Nat.le_refl _) _
  have hb := Bxo.made w 27 (cfL ⟨routes, rules, outside, pub, lo, hi, fwds, tcp, other, budget⟩ ⟨A1, c1, A2, c2, A3, c3⟩)
  clear hq hf h
  go_enter Tryz.func28, Tryz.ntmps28
  go_upto_region 1 with fail
  generalize w.alloc (oCf ⟨routes, rules, outside, pub, lo, hi, fwds, tcp, other, budget⟩ ⟨A1, c1, A2, c2, A3, c3⟩) = W0 at *
  generalize w.heap.size = g1 at hb ⊢
  have HG0 := Go.Lib.hid hb
  have b6 := hb.cell 6 rfl
  dsimp only at b6
  clear hb
  by_cases h32 : 32 < fwds.length
  · have t32 : (32 : Int) < (fwds.length : Int) := by omega
    have HQ : Hid (q = false) := Go.Lib.hid (rightFw_no HQ0.out h32 (by unfold okAtF; rfl))
    go_wp2_with fail
    go_ret
    exact ⟨by rw [HQ.out]; rfl, y0⟩
  have t32 : ¬ (32 : Int) < (fwds.length : Int) := by omega
  go_wp2_with fail
  go_loopw [12] (fun iv wr => ∃ k : Nat, iv = .int .i64 k ∧ k ≤ fwds.length ∧ Hid (∀ j, j < k → okAtF lo hi fwds j = true) ∧ Below W0.heap.size W0 wr) (fun iv _ => fwds.length - (intOf iv).toNat)
  case atStart => exact ⟨0, rfl, by omega, Go.Lib.hid (fun j hj => by omega), Below.refl _ _⟩
  case round =>
    rename World => wo
    clear b6
    obtain ⟨k, rfl, hk, HK, yo⟩ := hrel
    have k0 : (0 : Int) ≤ (k : Int) := by omega
    have xo := y0.trans (yo.mono y0.size)
    by_cases hkl : k < fwds.length
    · have t1 : (k : Int) < (fwds.length : Int) := by omega
      have t2 : (k : Int) ≤ (c3 : Int) := by omega
      obtain ⟨ad, rfl, hcell⟩ := HC.out.cell hkl
      obtain ⟨r, hr⟩ : ∃ r, fwds[k] = r := ⟨_, rfl⟩
      have HR : Hid (atF fwds k = r) := Go.Lib.hid (by rw [atF_get hkl]; exact hr)
      rw [hr] at hcell
      obtain ⟨proto, port, addr, to_, proxy⟩ := r
      have HW := Go.Lib.hid (hcell wo xo)
      have x2 : Below w.heap.size w (wo.alloc (oFw ⟨proto, port, addr, to_, proxy⟩)) := below_alloc xo xo.size _
      have z2 : Below W0.heap.size W0 (wo.alloc (oFw ⟨proto, port, addr, to_, proxy⟩)) := below_alloc yo yo.size _
      have hbx := Bxo.made wo 40 (fwL ⟨proto, port, addr, to_, proxy⟩)
      have HTK : Hid ((fwds.take k).length = k) := Go.Lib.hid (by rw [List.length_take]; omega)
      have HTA : Hid (FwsAt (wo.alloc (oFw ⟨proto, port, addr, to_, proxy⟩)) (fwds.take k) (some ad) c3) := Go.Lib.hid ((HC.out.at x2).take k)
      have HG := Go.Lib.hid (HG0.out.keep z2 HG0.out.lt)
      clear hcell hr
      go_upto_region 6 with (refine wpList_load_at rfl 40 _ rfl (ad.add (k * 5)) rfl (fwL ⟨proto, port, addr, to_, proxy⟩) _ HW.out Tryz.underlying40 rfl info_fw ?_)
      generalize wo.alloc (oFw ⟨proto, port, addr, to_, proxy⟩) = W at *
      generalize wo.heap.size = g2 at *
      have HB := Go.Lib.hid (show Bxo W g2 40 (fwL ⟨proto, port, addr, to_, proxy⟩) from hbx)
      clear hbx HW
      obtain ⟨ok, hok⟩ : ∃ b, mayF ⟨proto, port, addr, to_, proxy⟩ = b := ⟨_, rfl⟩
      obtain ⟨ou, hou⟩ : ∃ b, btw lo port hi = b := ⟨_, rfl⟩
      obtain ⟨an, han⟩ : ∃ b, (fwds.take k).any (sameFP · ⟨proto, port, addr, to_, proxy⟩) = b := ⟨_, rfl⟩
      have HOK := Go.Lib.hid hok
      have HOU := Go.Lib.hid hou
      have HAN := Go.Lib.hid han
      have HAT : Hid (okAtF lo hi fwds k = ((ok && !ou) && !an)) := Go.Lib.hid (by
        unfold okAtF
        rw [newF_any hkl, HR.out, han, okF_may, hok, decide_eq_true (show k < 32 by omega), Bool.true_and]
        dsimp only
        rw [hou])
      clear hok hou han
      cases ok
      · have HQ : Hid (q = false) := Go.Lib.hid (rightFw_no HQ0.out hkl (by rw [HAT.out]; rfl))
        try simp only [Act.put, List.setIfInBounds_toArray, List.set_cons_zero, List.set_cons_succ]
        refine wp_region_held_drew (S := fun Y => Below W.heap.size W Y) (by kernel_rfl) ?_ (fun hHeld => ?_)
        · exact below_drew (Below.refl _ _)
        refine wpAnyH_take (i := 0) (oi := ⟨some 17, _, _, _, _, _⟩) (v := (fwV ⟨proto, port, addr, to_, proxy⟩)) rfl (by kernel_rfl) (by kernel_rfl) (by kernel_rfl) (fun _ _ _ h => h) (yieldsIf_load_at (by rfl) 40 _ rfl ⟨g2, 0, none⟩ rfl (fwL ⟨proto, port, addr, to_, proxy⟩) _ (fun Y h => (HB.out.keep h HB.out.lt).at) Tryz.underlying40 rfl info_fw) (by assumption) ?_
        try simp only [Act.put, List.setIfInBounds_toArray, List.set_cons_zero, List.set_cons_succ]
        refine wpAnyH_ready (rs := [1]) (by kernel_rfl) (by simp) (AllReadyH.cons (o := ⟨some 18, _, _, _, _, _⟩) rfl (fun Kc hKc => ?_) AllReadyH.nil)
        go_simp
        go_at_call 42; refine (cmay15 ⟨proto, port, addr, to_, proxy⟩ _ _ HOK.out).mono ?_; rintro e w7 ⟨rfl, y7⟩; dsimp only
        refine hKc.out _ _ (hHeld.trans (y7.mono hHeld.size)) (fun hHeld => ?_)
        clear hKc Kc
        try simp only [Act.put, List.setIfInBounds_toArray, List.set_cons_zero, List.set_cons_succ]
        refine wpAnyH_take (i := 2) (oi := ⟨some 19, _, _, _, _, _⟩) (v := ?_) rfl (by kernel_rfl) (by kernel_rfl) (by kernel_rfl) (fun _ _ _ h => h) (Or.inl ⟨by rfl, ?_⟩) (by assumption) ?_
        rotate_left
        · intro w hSw; (try dsimp only at hSw); go_simp; (try with_reducible rfl)
        try simp only [Act.put, List.setIfInBounds_toArray, List.set_cons_zero, List.set_cons_succ]
        refine wpAnyH_take (i := 3) (oi := ⟨some 20, _, _, _, _, _⟩) (v := ?_) rfl (by kernel_rfl) (by kernel_rfl) (by kernel_rfl) (fun _ _ _ h => h) (Or.inl ⟨by rfl, ?_⟩) (by assumption) ?_
        rotate_left
        · intro w hSw; (try dsimp only at hSw); go_simp; (try with_reducible rfl)
        try simp only [Act.put, List.setIfInBounds_toArray, List.set_cons_zero, List.set_cons_succ]
        refine wpAnyH_take (i := 4) (oi := ⟨some 21, _, _, _, _, _⟩) (v := undef) rfl (by kernel_rfl) (by kernel_rfl) (by kernel_rfl) (fun _ _ _ h => h) (Or.inr ⟨by rfl, rfl⟩) (by assumption) ?_
        try simp only [Act.put, List.setIfInBounds_toArray, List.set_cons_zero, List.set_cons_succ]
        refine wpAnyH_take (i := 5) (oi := ⟨some 22, _, _, _, _, _⟩) (v := undef) rfl (by kernel_rfl) (by kernel_rfl) (by kernel_rfl) (fun _ _ _ h => h) (Or.inr ⟨by rfl, rfl⟩) (by assumption) ?_
        try simp only [Act.put, List.setIfInBounds_toArray, List.set_cons_zero, List.set_cons_succ]
        refine wpAnyH_take (i := 6) (oi := ⟨some 23, _, _, _, _, _⟩) (v := undef) rfl (by kernel_rfl) (by kernel_rfl) (by kernel_rfl) (fun _ _ _ h => h) (Or.inr ⟨by rfl, rfl⟩) (by assumption) ?_
        try simp only [Act.put, List.setIfInBounds_toArray, List.set_cons_zero, List.set_cons_succ]
        refine wpAnyH_take (i := 7) (oi := ⟨some 24, _, _, _, _, _⟩) (v := undef) rfl (by kernel_rfl) (by kernel_rfl) (by kernel_rfl) (fun _ _ _ h => h) (Or.inr ⟨by rfl, rfl⟩) (by assumption) ?_
        try simp only [Act.put, List.setIfInBounds_toArray, List.set_cons_zero, List.set_cons_succ]
        refine wpAnyH_take (i := 8) (oi := ⟨some 25, _, _, _, _, _⟩) (v := undef) rfl (by kernel_rfl) (by kernel_rfl) (by kernel_rfl) (fun _ _ _ h => h) (Or.inr ⟨by rfl, rfl⟩) (by assumption) ?_
        try simp only [Act.put, List.setIfInBounds_toArray, List.set_cons_zero, List.set_cons_succ]
        refine wpAnyH_take (i := 9) (oi := ⟨some 26, _, _, _, _, _⟩) (v := undef) rfl (by kernel_rfl) (by kernel_rfl) (by kernel_rfl) (fun _ _ _ h => h) (Or.inr ⟨by rfl, rfl⟩) (by assumption) ?_
        try simp only [Act.put, List.setIfInBounds_toArray, List.set_cons_zero, List.set_cons_succ]
        refine wpAnyH_take (i := 10) (oi := ⟨some 27, _, _, _, _, _⟩) (v := undef) rfl (by kernel_rfl) (by kernel_rfl) (by kernel_rfl) (fun _ _ _ h => h) (Or.inr ⟨by rfl, rfl⟩) (by assumption) ?_
        try simp only [Act.put, List.setIfInBounds_toArray, List.set_cons_zero, List.set_cons_succ]
        refine wpAnyH_take (i := 11) (oi := ⟨some 28, _, _, _, _, _⟩) (v := ?_) rfl (by kernel_rfl) (by kernel_rfl) (by kernel_rfl) (fun _ _ _ h => h) (Or.inl ⟨by rfl, ?_⟩) (by assumption) ?_
        rotate_left
        · intro w hSw; (try dsimp only at hSw); go_simp; (try with_reducible rfl)
        try simp only [Act.put, List.setIfInBounds_toArray, List.set_cons_zero, List.set_cons_succ]
        refine wpAnyH_take (i := 12) (oi := ⟨some 29, _, _, _, _, _⟩) (v := ?_) rfl (by kernel_rfl) (by kernel_rfl) (by kernel_rfl) (fun _ _ _ h => h) (Or.inl ⟨by rfl, ?_⟩) (by assumption) ?_
        rotate_left
        · intro w hSw; (try dsimp only at hSw); go_simp; (try with_reducible rfl)
        try simp only [Act.put, List.setIfInBounds_toArray, List.set_cons_zero, List.set_cons_succ]
        refine wpAnyH_take (i := 13) (oi := ⟨some 30, _, _, _, _, _⟩) (v := undef) rfl (by kernel_rfl) (by kernel_rfl) (by kernel_rfl) (fun _ _ _ h => h) (Or.inr ⟨by rfl, rfl⟩) (by assumption) ?_
        try simp only [Act.put, List.setIfInBounds_toArray, List.set_cons_zero, List.set_cons_succ]
        refine wpAnyH_take (i := 14) (oi := ⟨some 31, _, _, _, _, _⟩) (v := undef) rfl (by kernel_rfl) (by kernel_rfl) (by kernel_rfl) (fun _ _ _ h => h) (Or.inr ⟨by rfl, rfl⟩) (by assumption) ?_
        try simp only [Act.put, List.setIfInBounds_toArray, List.set_cons_zero, List.set_cons_succ]
        refine wpAnyH_take (i := 15) (oi := ⟨some 32, _, _, _, _, _⟩) (v := undef) rfl (by kernel_rfl) (by kernel_rfl) (by kernel_rfl) (fun _ _ _ h => h) (Or.inr ⟨by rfl, rfl⟩) (by assumption) ?_
        try simp only [Act.put, List.setIfInBounds_toArray, List.set_cons_zero, List.set_cons_succ]
        refine wpAnyH_take (i := 16) (oi := ⟨some 33, _, _, _, _, _⟩) (v := undef) rfl (by kernel_rfl) (by kernel_rfl) (by kernel_rfl) (fun _ _ _ h => h) (Or.inr ⟨by rfl, rfl⟩) (by assumption) ?_
        try simp only [Act.put, List.setIfInBounds_toArray, List.set_cons_zero, List.set_cons_succ]
        refine wpAnyH_take (i := 17) (oi := ⟨some 34, _, _, _, _, _⟩) (v := undef) rfl (by kernel_rfl) (by kernel_rfl) (by kernel_rfl) (fun _ _ _ h => h) (Or.inr ⟨by rfl, rfl⟩) (by assumption) ?_
        try simp only [Act.put, List.setIfInBounds_toArray, List.set_cons_zero, List.set_cons_succ]
        refine wpAnyH_take (i := 18) (oi := ⟨some 35, _, _, _, _, _⟩) (v := undef) rfl (by kernel_rfl) (by kernel_rfl) (by kernel_rfl) (fun _ _ _ h => h) (Or.inr ⟨by rfl, rfl⟩) (by assumption) ?_
        try simp only [Act.put, List.setIfInBounds_toArray, List.set_cons_zero, List.set_cons_succ]
        refine wpAnyH_take (i := 19) (oi := ⟨some 36, _, _, _, _, _⟩) (v := ?_) rfl (by kernel_rfl) (by kernel_rfl) (by kernel_rfl) (fun _ _ _ h => h) (Or.inl ⟨by rfl, ?_⟩) (by assumption) ?_
        rotate_left
        · intro w hSw; (try dsimp only at hSw); go_simp; (try with_reducible rfl)
        try simp only [Act.put, List.setIfInBounds_toArray, List.set_cons_zero, List.set_cons_succ]
        refine wpAnyH_done (by kernel_rfl) ?_ _
        have yq := hHeld
        clear hHeld
        go_wp2
        go_ret
        exact ⟨by rw [HQ.out]; rfl, x2.trans (yq.mono x2.size)⟩

      · cases ou
        · cases an
          · have HKK : Hid (okAtF lo hi fwds k = true) := Go.Lib.hid (by rw [HAT.out]; rfl)
            try simp only [Act.put, List.setIfInBounds_toArray, List.set_cons_zero, List.set_cons_succ]
            refine wp_region_held_drew (S := fun Y => Below W.heap.size W Y) (by kernel_rfl) ?_ (fun hHeld => ?_)
            · exact below_drew (Below.refl _ _)
            refine wpAnyH_take (i := 0) (oi := ⟨some 17, _, _, _, _, _⟩) (v := (fwV ⟨proto, port, addr, to_, proxy⟩)) rfl (by kernel_rfl) (by kernel_rfl) (by kernel_rfl) (fun _ _ _ h => h) (yieldsIf_load_at (by rfl) 40 _ rfl ⟨g2, 0, none⟩ rfl (fwL ⟨proto, port, addr, to_, proxy⟩) _ (fun Y h => (HB.out.keep h HB.out.lt).at) Tryz.underlying40 rfl info_fw) (by assumption) ?_
            try simp only [Act.put, List.setIfInBounds_toArray, List.set_cons_zero, List.set_cons_succ]
            refine wpAnyH_ready (rs := [1]) (by kernel_rfl) (by simp) (AllReadyH.cons (o := ⟨some 18, _, _, _, _, _⟩) rfl (fun Kc hKc => ?_) AllReadyH.nil)
            go_simp
            go_at_call 42; refine (cmay15 ⟨proto, port, addr, to_, proxy⟩ _ _ HOK.out).mono ?_; rintro e w7 ⟨rfl, y7⟩; dsimp only
            refine hKc.out _ _ (hHeld.trans (y7.mono hHeld.size)) (fun hHeld => ?_)
            clear hKc Kc
            try simp only [Act.put, List.setIfInBounds_toArray, List.set_cons_zero, List.set_cons_succ]
            refine wpAnyH_take (i := 2) (oi := ⟨some 19, _, _, _, _, _⟩) (v := ?_) rfl (by kernel_rfl) (by kernel_rfl) (by kernel_rfl) (fun _ _ _ h => h) (Or.inl ⟨by rfl, ?_⟩) (by assumption) ?_
            rotate_left
            · intro w hSw; (try dsimp only at hSw); go_simp; (try with_reducible rfl)
            try simp only [Act.put, List.setIfInBounds_toArray, List.set_cons_zero, List.set_cons_succ]
            refine wpAnyH_take (i := 3) (oi := ⟨some 20, _, _, _, _, _⟩) (v := ?_) rfl (by kernel_rfl) (by kernel_rfl) (by kernel_rfl) (fun _ _ _ h => h) (Or.inl ⟨by rfl, ?_⟩) (by assumption) ?_
            rotate_left
            · intro w hSw; (try dsimp only at hSw); go_simp; (try with_reducible rfl)
            try simp only [Act.put, List.setIfInBounds_toArray, List.set_cons_zero, List.set_cons_succ]
            refine wpAnyH_take (i := 4) (oi := ⟨some 21, _, _, _, _, _⟩) (v := ?_) rfl (by kernel_rfl) (by kernel_rfl) (by kernel_rfl) (fun _ _ _ h => h) (Or.inl ⟨by rfl, ?_⟩) (by assumption) ?_
            rotate_left
            · intro w hSw; (try dsimp only at hSw); go_simp; (try with_reducible rfl)
            try simp only [Act.put, List.setIfInBounds_toArray, List.set_cons_zero, List.set_cons_succ]
            refine wpAnyH_take (i := 5) (oi := ⟨some 22, _, _, _, _, _⟩) (v := ?_) rfl (by kernel_rfl) (by kernel_rfl) (by kernel_rfl) (fun _ _ _ h => h) (Or.inl ⟨by rfl, ?_⟩) (by assumption) ?_
            rotate_left
            · intro w hSw; have c1 := (HB.out.keep hSw HB.out.lt).cell 1 rfl; dsimp only at c1; (try dsimp only at hSw); go_simp; (try with_reducible rfl)
            try simp only [Act.put, List.setIfInBounds_toArray, List.set_cons_zero, List.set_cons_succ]
            refine wpAnyH_take (i := 6) (oi := ⟨some 23, _, _, _, _, _⟩) (v := ?_) rfl (by kernel_rfl) (by kernel_rfl) (by kernel_rfl) (fun _ _ _ h => h) (Or.inl ⟨by rfl, ?_⟩) (by assumption) ?_
            rotate_left
            · intro w hSw; (try dsimp only at hSw); go_simp; (try with_reducible rfl)
            try simp only [Act.put, List.setIfInBounds_toArray, List.set_cons_zero, List.set_cons_succ]
            refine wpAnyH_take (i := 7) (oi := ⟨some 24, _, _, _, _, _⟩) (v := ?_) rfl (by kernel_rfl) (by kernel_rfl) (by kernel_rfl) (fun _ _ _ h => h) (Or.inl ⟨by rfl, ?_⟩) (by assumption) ?_
            rotate_left
            · intro w hSw; have c4 := (HG.out.keep hSw HG.out.lt).cell 4 rfl; dsimp only at c4; (try dsimp only at hSw); go_simp; (try with_reducible rfl)
            try simp only [Act.put, List.setIfInBounds_toArray, List.set_cons_zero, List.set_cons_succ]
            refine wpAnyH_take (i := 8) (oi := ⟨some 25, _, _, _, _, _⟩) (v := ?_) rfl (by kernel_rfl) (by kernel_rfl) (by kernel_rfl) (fun _ _ _ h => h) (Or.inl ⟨by rfl, ?_⟩) (by assumption) ?_
            rotate_left
            · intro w hSw; (try dsimp only at hSw); go_simp; (try with_reducible rfl)
            try simp only [Act.put, List.setIfInBounds_toArray, List.set_cons_zero, List.set_cons_succ]
            refine wpAnyH_take (i := 9) (oi := ⟨some 26, _, _, _, _, _⟩) (v := ?_) rfl (by kernel_rfl) (by kernel_rfl) (by kernel_rfl) (fun _ _ _ h => h) (Or.inl ⟨by rfl, ?_⟩) (by assumption) ?_
            rotate_left
            · intro w hSw; have c5 := (HG.out.keep hSw HG.out.lt).cell 5 rfl; dsimp only at c5; (try dsimp only at hSw); go_simp; (try with_reducible rfl)
            try simp only [Act.put, List.setIfInBounds_toArray, List.set_cons_zero, List.set_cons_succ]
            refine wpAnyH_ready (rs := [10]) (by kernel_rfl) (by simp) (AllReadyH.cons (o := ⟨some 27, _, _, _, _, _⟩) rfl (fun Kc hKc => ?_) AllReadyH.nil)
            go_simp
            go_at_call 29; refine (cfrom15 port lo hi _ _ HOU.out).mono ?_; rintro e w9 ⟨rfl, rfl⟩; dsimp only
            refine hKc.out _ _ (hHeld) (fun hHeld => ?_)
            clear hKc Kc
            try simp only [Act.put, List.setIfInBounds_toArray, List.set_cons_zero, List.set_cons_succ]
            refine wpAnyH_take (i := 11) (oi := ⟨some 28, _, _, _, _, _⟩) (v := ?_) rfl (by kernel_rfl) (by kernel_rfl) (by kernel_rfl) (fun _ _ _ h => h) (Or.inl ⟨by rfl, ?_⟩) (by assumption) ?_
            rotate_left
            · intro w hSw; (try dsimp only at hSw); go_simp; (try with_reducible rfl)
            try simp only [Act.put, List.setIfInBounds_toArray, List.set_cons_zero, List.set_cons_succ]
            refine wpAnyH_take (i := 12) (oi := ⟨some 29, _, _, _, _, _⟩) (v := ?_) rfl (by kernel_rfl) (by kernel_rfl) (by kernel_rfl) (fun _ _ _ h => h) (Or.inl ⟨by rfl, ?_⟩) (by assumption) ?_
            rotate_left
            · intro w hSw; (try dsimp only at hSw); go_simp; (try with_reducible rfl)
            try simp only [Act.put, List.setIfInBounds_toArray, List.set_cons_zero, List.set_cons_succ]
            refine wpAnyH_take (i := 13) (oi := ⟨some 30, _, _, _, _, _⟩) (v := ?_) rfl (by kernel_rfl) (by kernel_rfl) (by kernel_rfl) (fun _ _ _ h => h) (Or.inl ⟨by rfl, ?_⟩) (by assumption) ?_
            rotate_left
            · intro w hSw; (try dsimp only at hSw); go_simp; (try with_reducible rfl)
            try simp only [Act.put, List.setIfInBounds_toArray, List.set_cons_zero, List.set_cons_succ]
            refine wpAnyH_take (i := 14) (oi := ⟨some 31, _, _, _, _, _⟩) (v := ?_) rfl (by kernel_rfl) (by kernel_rfl) (by kernel_rfl) (fun _ _ _ h => h) (Or.inl ⟨by rfl, ?_⟩) (by assumption) ?_
            rotate_left
            · intro w hSw; have c6 := (HG.out.keep hSw HG.out.lt).cell 6 rfl; dsimp only at c6; (try dsimp only at hSw); go_simp; (try with_reducible rfl)
            try simp only [Act.put, List.setIfInBounds_toArray, List.set_cons_zero, List.set_cons_succ]
            refine wpAnyH_take (i := 15) (oi := ⟨some 32, _, _, _, _, _⟩) (v := ?_) rfl (by kernel_rfl) (by kernel_rfl) (by kernel_rfl) (fun _ _ _ h => h) (Or.inl ⟨by rfl, ?_⟩) (by assumption) ?_
            rotate_left
            · intro w hSw; (try dsimp only at hSw); go_simp; (try with_reducible rfl)
            try simp only [Act.put, List.setIfInBounds_toArray, List.set_cons_zero, List.set_cons_succ]
            refine wpAnyH_take (i := 16) (oi := ⟨some 33, _, _, _, _, _⟩) (v := ?_) rfl (by kernel_rfl) (by kernel_rfl) (by kernel_rfl) (fun _ _ _ h => h) (Or.inl ⟨by rfl, ?_⟩) (by assumption) ?_
            rotate_left
            · intro w hSw; (try dsimp only at hSw); go_simp; (try with_reducible rfl)
            try simp only [Act.put, List.setIfInBounds_toArray, List.set_cons_zero, List.set_cons_succ]
            refine wpAnyH_take (i := 17) (oi := ⟨some 34, _, _, _, _, _⟩) (v := (fwV ⟨proto, port, addr, to_, proxy⟩)) rfl (by kernel_rfl) (by kernel_rfl) (by kernel_rfl) (fun _ _ _ h => h) (yieldsIf_load_at (by rfl) 40 _ rfl ⟨g2, 0, none⟩ rfl (fwL ⟨proto, port, addr, to_, proxy⟩) _ (fun Y h => (HB.out.keep h HB.out.lt).at) Tryz.underlying40 rfl info_fw) (by assumption) ?_
            try simp only [Act.put, List.setIfInBounds_toArray, List.set_cons_zero, List.set_cons_succ]
            refine wpAnyH_ready (rs := [18]) (by kernel_rfl) (by simp) (AllReadyH.cons (o := ⟨some 35, _, _, _, _, _⟩) rfl (fun Kc hKc => ?_) AllReadyH.nil)
            go_simp
            go_at_call 43; refine (chasP (fwds.take k) _ c3 k HTK.out ⟨proto, port, addr, to_, proxy⟩ _ (HTA.out.at hHeld) _ HAN.out).mono ?_; rintro e w8 ⟨rfl, y8⟩; dsimp only
            refine hKc.out _ _ (hHeld.trans (y8.mono hHeld.size)) (fun hHeld => ?_)
            clear hKc Kc
            try simp only [Act.put, List.setIfInBounds_toArray, List.set_cons_zero, List.set_cons_succ]
            refine wpAnyH_take (i := 19) (oi := ⟨some 36, _, _, _, _, _⟩) (v := ?_) rfl (by kernel_rfl) (by kernel_rfl) (by kernel_rfl) (fun _ _ _ h => h) (Or.inl ⟨by rfl, ?_⟩) (by assumption) ?_
            rotate_left
            · intro w hSw; (try dsimp only at hSw); go_simp; (try with_reducible rfl)
            try simp only [Act.put, List.setIfInBounds_toArray, List.set_cons_zero, List.set_cons_succ]
            refine wpAnyH_done (by kernel_rfl) ?_ _
            have yq := hHeld
            clear hHeld
            go_wp2
            go_round
            case rel => exact ⟨k + 1, by go_num, by omega, Go.Lib.hid (fun j hj => by
              by_cases e : j = k
              · rw [e]; exact HKK.out
              · exact HK.out j (by omega)), z2.trans (yq.mono z2.size)⟩
            case measure => simp [intOf]; omega

          · have HQ : Hid (q = false) := Go.Lib.hid (rightFw_no HQ0.out hkl (by rw [HAT.out]; rfl))
            try simp only [Act.put, List.setIfInBounds_toArray, List.set_cons_zero, List.set_cons_succ]
            refine wp_region_held_drew (S := fun Y => Below W.heap.size W Y) (by kernel_rfl) ?_ (fun hHeld => ?_)
            · exact below_drew (Below.refl _ _)
            refine wpAnyH_take (i := 0) (oi := ⟨some 17, _, _, _, _, _⟩) (v := (fwV ⟨proto, port, addr, to_, proxy⟩)) rfl (by kernel_rfl) (by kernel_rfl) (by kernel_rfl) (fun _ _ _ h => h) (yieldsIf_load_at (by rfl) 40 _ rfl ⟨g2, 0, none⟩ rfl (fwL ⟨proto, port, addr, to_, proxy⟩) _ (fun Y h => (HB.out.keep h HB.out.lt).at) Tryz.underlying40 rfl info_fw) (by assumption) ?_
            try simp only [Act.put, List.setIfInBounds_toArray, List.set_cons_zero, List.set_cons_succ]
            refine wpAnyH_ready (rs := [1]) (by kernel_rfl) (by simp) (AllReadyH.cons (o := ⟨some 18, _, _, _, _, _⟩) rfl (fun Kc hKc => ?_) AllReadyH.nil)
            go_simp
            go_at_call 42; refine (cmay15 ⟨proto, port, addr, to_, proxy⟩ _ _ HOK.out).mono ?_; rintro e w7 ⟨rfl, y7⟩; dsimp only
            refine hKc.out _ _ (hHeld.trans (y7.mono hHeld.size)) (fun hHeld => ?_)
            clear hKc Kc
            try simp only [Act.put, List.setIfInBounds_toArray, List.set_cons_zero, List.set_cons_succ]
            refine wpAnyH_take (i := 2) (oi := ⟨some 19, _, _, _, _, _⟩) (v := ?_) rfl (by kernel_rfl) (by kernel_rfl) (by kernel_rfl) (fun _ _ _ h => h) (Or.inl ⟨by rfl, ?_⟩) (by assumption) ?_
            rotate_left
            · intro w hSw; (try dsimp only at hSw); go_simp; (try with_reducible rfl)
            try simp only [Act.put, List.setIfInBounds_toArray, List.set_cons_zero, List.set_cons_succ]
            refine wpAnyH_take (i := 3) (oi := ⟨some 20, _, _, _, _, _⟩) (v := ?_) rfl (by kernel_rfl) (by kernel_rfl) (by kernel_rfl) (fun _ _ _ h => h) (Or.inl ⟨by rfl, ?_⟩) (by assumption) ?_
            rotate_left
            · intro w hSw; (try dsimp only at hSw); go_simp; (try with_reducible rfl)
            try simp only [Act.put, List.setIfInBounds_toArray, List.set_cons_zero, List.set_cons_succ]
            refine wpAnyH_take (i := 4) (oi := ⟨some 21, _, _, _, _, _⟩) (v := ?_) rfl (by kernel_rfl) (by kernel_rfl) (by kernel_rfl) (fun _ _ _ h => h) (Or.inl ⟨by rfl, ?_⟩) (by assumption) ?_
            rotate_left
            · intro w hSw; (try dsimp only at hSw); go_simp; (try with_reducible rfl)
            try simp only [Act.put, List.setIfInBounds_toArray, List.set_cons_zero, List.set_cons_succ]
            refine wpAnyH_take (i := 5) (oi := ⟨some 22, _, _, _, _, _⟩) (v := ?_) rfl (by kernel_rfl) (by kernel_rfl) (by kernel_rfl) (fun _ _ _ h => h) (Or.inl ⟨by rfl, ?_⟩) (by assumption) ?_
            rotate_left
            · intro w hSw; have c1 := (HB.out.keep hSw HB.out.lt).cell 1 rfl; dsimp only at c1; (try dsimp only at hSw); go_simp; (try with_reducible rfl)
            try simp only [Act.put, List.setIfInBounds_toArray, List.set_cons_zero, List.set_cons_succ]
            refine wpAnyH_take (i := 6) (oi := ⟨some 23, _, _, _, _, _⟩) (v := ?_) rfl (by kernel_rfl) (by kernel_rfl) (by kernel_rfl) (fun _ _ _ h => h) (Or.inl ⟨by rfl, ?_⟩) (by assumption) ?_
            rotate_left
            · intro w hSw; (try dsimp only at hSw); go_simp; (try with_reducible rfl)
            try simp only [Act.put, List.setIfInBounds_toArray, List.set_cons_zero, List.set_cons_succ]
            refine wpAnyH_take (i := 7) (oi := ⟨some 24, _, _, _, _, _⟩) (v := ?_) rfl (by kernel_rfl) (by kernel_rfl) (by kernel_rfl) (fun _ _ _ h => h) (Or.inl ⟨by rfl, ?_⟩) (by assumption) ?_
            rotate_left
            · intro w hSw; have c4 := (HG.out.keep hSw HG.out.lt).cell 4 rfl; dsimp only at c4; (try dsimp only at hSw); go_simp; (try with_reducible rfl)
            try simp only [Act.put, List.setIfInBounds_toArray, List.set_cons_zero, List.set_cons_succ]
            refine wpAnyH_take (i := 8) (oi := ⟨some 25, _, _, _, _, _⟩) (v := ?_) rfl (by kernel_rfl) (by kernel_rfl) (by kernel_rfl) (fun _ _ _ h => h) (Or.inl ⟨by rfl, ?_⟩) (by assumption) ?_
            rotate_left
            · intro w hSw; (try dsimp only at hSw); go_simp; (try with_reducible rfl)
            try simp only [Act.put, List.setIfInBounds_toArray, List.set_cons_zero, List.set_cons_succ]
            refine wpAnyH_take (i := 9) (oi := ⟨some 26, _, _, _, _, _⟩) (v := ?_) rfl (by kernel_rfl) (by kernel_rfl) (by kernel_rfl) (fun _ _ _ h => h) (Or.inl ⟨by rfl, ?_⟩) (by assumption) ?_
            rotate_left
            · intro w hSw; have c5 := (HG.out.keep hSw HG.out.lt).cell 5 rfl; dsimp only at c5; (try dsimp only at hSw); go_simp; (try with_reducible rfl)
            try simp only [Act.put, List.setIfInBounds_toArray, List.set_cons_zero, List.set_cons_succ]
            refine wpAnyH_ready (rs := [10]) (by kernel_rfl) (by simp) (AllReadyH.cons (o := ⟨some 27, _, _, _, _, _⟩) rfl (fun Kc hKc => ?_) AllReadyH.nil)
            go_simp
            go_at_call 29; refine (cfrom15 port lo hi _ _ HOU.out).mono ?_; rintro e w9 ⟨rfl, rfl⟩; dsimp only
            refine hKc.out _ _ (hHeld) (fun hHeld => ?_)
            clear hKc Kc
            try simp only [Act.put, List.setIfInBounds_toArray, List.set_cons_zero, List.set_cons_succ]
            refine wpAnyH_take (i := 11) (oi := ⟨some 28, _, _, _, _, _⟩) (v := ?_) rfl (by kernel_rfl) (by kernel_rfl) (by kernel_rfl) (fun _ _ _ h => h) (Or.inl ⟨by rfl, ?_⟩) (by assumption) ?_
            rotate_left
            · intro w hSw; (try dsimp only at hSw); go_simp; (try with_reducible rfl)
            try simp only [Act.put, List.setIfInBounds_toArray, List.set_cons_zero, List.set_cons_succ]
            refine wpAnyH_take (i := 12) (oi := ⟨some 29, _, _, _, _, _⟩) (v := ?_) rfl (by kernel_rfl) (by kernel_rfl) (by kernel_rfl) (fun _ _ _ h => h) (Or.inl ⟨by rfl, ?_⟩) (by assumption) ?_
            rotate_left
            · intro w hSw; (try dsimp only at hSw); go_simp; (try with_reducible rfl)
            try simp only [Act.put, List.setIfInBounds_toArray, List.set_cons_zero, List.set_cons_succ]
            refine wpAnyH_take (i := 13) (oi := ⟨some 30, _, _, _, _, _⟩) (v := ?_) rfl (by kernel_rfl) (by kernel_rfl) (by kernel_rfl) (fun _ _ _ h => h) (Or.inl ⟨by rfl, ?_⟩) (by assumption) ?_
            rotate_left
            · intro w hSw; (try dsimp only at hSw); go_simp; (try with_reducible rfl)
            try simp only [Act.put, List.setIfInBounds_toArray, List.set_cons_zero, List.set_cons_succ]
            refine wpAnyH_take (i := 14) (oi := ⟨some 31, _, _, _, _, _⟩) (v := ?_) rfl (by kernel_rfl) (by kernel_rfl) (by kernel_rfl) (fun _ _ _ h => h) (Or.inl ⟨by rfl, ?_⟩) (by assumption) ?_
            rotate_left
            · intro w hSw; have c6 := (HG.out.keep hSw HG.out.lt).cell 6 rfl; dsimp only at c6; (try dsimp only at hSw); go_simp; (try with_reducible rfl)
            try simp only [Act.put, List.setIfInBounds_toArray, List.set_cons_zero, List.set_cons_succ]
            refine wpAnyH_take (i := 15) (oi := ⟨some 32, _, _, _, _, _⟩) (v := ?_) rfl (by kernel_rfl) (by kernel_rfl) (by kernel_rfl) (fun _ _ _ h => h) (Or.inl ⟨by rfl, ?_⟩) (by assumption) ?_
            rotate_left
            · intro w hSw; (try dsimp only at hSw); go_simp; (try with_reducible rfl)
            try simp only [Act.put, List.setIfInBounds_toArray, List.set_cons_zero, List.set_cons_succ]
            refine wpAnyH_take (i := 16) (oi := ⟨some 33, _, _, _, _, _⟩) (v := ?_) rfl (by kernel_rfl) (by kernel_rfl) (by kernel_rfl) (fun _ _ _ h => h) (Or.inl ⟨by rfl, ?_⟩) (by assumption) ?_
            rotate_left
            · intro w hSw; (try dsimp only at hSw); go_simp; (try with_reducible rfl)
            try simp only [Act.put, List.setIfInBounds_toArray, List.set_cons_zero, List.set_cons_succ]
            refine wpAnyH_take (i := 17) (oi := ⟨some 34, _, _, _, _, _⟩) (v := (fwV ⟨proto, port, addr, to_, proxy⟩)) rfl (by kernel_rfl) (by kernel_rfl) (by kernel_rfl) (fun _ _ _ h => h) (yieldsIf_load_at (by rfl) 40 _ rfl ⟨g2, 0, none⟩ rfl (fwL ⟨proto, port, addr, to_, proxy⟩) _ (fun Y h => (HB.out.keep h HB.out.lt).at) Tryz.underlying40 rfl info_fw) (by assumption) ?_
            try simp only [Act.put, List.setIfInBounds_toArray, List.set_cons_zero, List.set_cons_succ]
            refine wpAnyH_ready (rs := [18]) (by kernel_rfl) (by simp) (AllReadyH.cons (o := ⟨some 35, _, _, _, _, _⟩) rfl (fun Kc hKc => ?_) AllReadyH.nil)
            go_simp
            go_at_call 43; refine (chasP (fwds.take k) _ c3 k HTK.out ⟨proto, port, addr, to_, proxy⟩ _ (HTA.out.at hHeld) _ HAN.out).mono ?_; rintro e w8 ⟨rfl, y8⟩; dsimp only
            refine hKc.out _ _ (hHeld.trans (y8.mono hHeld.size)) (fun hHeld => ?_)
            clear hKc Kc
            try simp only [Act.put, List.setIfInBounds_toArray, List.set_cons_zero, List.set_cons_succ]
            refine wpAnyH_take (i := 19) (oi := ⟨some 36, _, _, _, _, _⟩) (v := ?_) rfl (by kernel_rfl) (by kernel_rfl) (by kernel_rfl) (fun _ _ _ h => h) (Or.inl ⟨by rfl, ?_⟩) (by assumption) ?_
            rotate_left
            · intro w hSw; (try dsimp only at hSw); go_simp; (try with_reducible rfl)
            try simp only [Act.put, List.setIfInBounds_toArray, List.set_cons_zero, List.set_cons_succ]
            refine wpAnyH_done (by kernel_rfl) ?_ _
            have yq := hHeld
            clear hHeld
            go_wp2
            go_ret
            exact ⟨by rw [HQ.out]; rfl, x2.trans (yq.mono x2.size)⟩

        · have HQ : Hid (q = false) := Go.Lib.hid (rightFw_no HQ0.out hkl (by rw [HAT.out]; rfl))
          try simp only [Act.put, List.setIfInBounds_toArray, List.set_cons_zero, List.set_cons_succ]
          refine wp_region_held_drew (S := fun Y => Below W.heap.size W Y) (by kernel_rfl) ?_ (fun hHeld => ?_)
          · exact below_drew (Below.refl _ _)
          refine wpAnyH_take (i := 0) (oi := ⟨some 17, _, _, _, _, _⟩) (v := (fwV ⟨proto, port, addr, to_, proxy⟩)) rfl (by kernel_rfl) (by kernel_rfl) (by kernel_rfl) (fun _ _ _ h => h) (yieldsIf_load_at (by rfl) 40 _ rfl ⟨g2, 0, none⟩ rfl (fwL ⟨proto, port, addr, to_, proxy⟩) _ (fun Y h => (HB.out.keep h HB.out.lt).at) Tryz.underlying40 rfl info_fw) (by assumption) ?_
          try simp only [Act.put, List.setIfInBounds_toArray, List.set_cons_zero, List.set_cons_succ]
          refine wpAnyH_ready (rs := [1]) (by kernel_rfl) (by simp) (AllReadyH.cons (o := ⟨some 18, _, _, _, _, _⟩) rfl (fun Kc hKc => ?_) AllReadyH.nil)
          go_simp
          go_at_call 42; refine (cmay15 ⟨proto, port, addr, to_, proxy⟩ _ _ HOK.out).mono ?_; rintro e w7 ⟨rfl, y7⟩; dsimp only
          refine hKc.out _ _ (hHeld.trans (y7.mono hHeld.size)) (fun hHeld => ?_)
          clear hKc Kc
          try simp only [Act.put, List.setIfInBounds_toArray, List.set_cons_zero, List.set_cons_succ]
          refine wpAnyH_take (i := 2) (oi := ⟨some 19, _, _, _, _, _⟩) (v := ?_) rfl (by kernel_rfl) (by kernel_rfl) (by kernel_rfl) (fun _ _ _ h => h) (Or.inl ⟨by rfl, ?_⟩) (by assumption) ?_
          rotate_left
          · intro w hSw; (try dsimp only at hSw); go_simp; (try with_reducible rfl)
          try simp only [Act.put, List.setIfInBounds_toArray, List.set_cons_zero, List.set_cons_succ]
          refine wpAnyH_take (i := 3) (oi := ⟨some 20, _, _, _, _, _⟩) (v := ?_) rfl (by kernel_rfl) (by kernel_rfl) (by kernel_rfl) (fun _ _ _ h => h) (Or.inl ⟨by rfl, ?_⟩) (by assumption) ?_
          rotate_left
          · intro w hSw; (try dsimp only at hSw); go_simp; (try with_reducible rfl)
          try simp only [Act.put, List.setIfInBounds_toArray, List.set_cons_zero, List.set_cons_succ]
          refine wpAnyH_take (i := 4) (oi := ⟨some 21, _, _, _, _, _⟩) (v := ?_) rfl (by kernel_rfl) (by kernel_rfl) (by kernel_rfl) (fun _ _ _ h => h) (Or.inl ⟨by rfl, ?_⟩) (by assumption) ?_
          rotate_left
          · intro w hSw; (try dsimp only at hSw); go_simp; (try with_reducible rfl)
          try simp only [Act.put, List.setIfInBounds_toArray, List.set_cons_zero, List.set_cons_succ]
          refine wpAnyH_take (i := 5) (oi := ⟨some 22, _, _, _, _, _⟩) (v := ?_) rfl (by kernel_rfl) (by kernel_rfl) (by kernel_rfl) (fun _ _ _ h => h) (Or.inl ⟨by rfl, ?_⟩) (by assumption) ?_
          rotate_left
          · intro w hSw; have c1 := (HB.out.keep hSw HB.out.lt).cell 1 rfl; dsimp only at c1; (try dsimp only at hSw); go_simp; (try with_reducible rfl)
          try simp only [Act.put, List.setIfInBounds_toArray, List.set_cons_zero, List.set_cons_succ]
          refine wpAnyH_take (i := 6) (oi := ⟨some 23, _, _, _, _, _⟩) (v := ?_) rfl (by kernel_rfl) (by kernel_rfl) (by kernel_rfl) (fun _ _ _ h => h) (Or.inl ⟨by rfl, ?_⟩) (by assumption) ?_
          rotate_left
          · intro w hSw; (try dsimp only at hSw); go_simp; (try with_reducible rfl)
          try simp only [Act.put, List.setIfInBounds_toArray, List.set_cons_zero, List.set_cons_succ]
          refine wpAnyH_take (i := 7) (oi := ⟨some 24, _, _, _, _, _⟩) (v := ?_) rfl (by kernel_rfl) (by kernel_rfl) (by kernel_rfl) (fun _ _ _ h => h) (Or.inl ⟨by rfl, ?_⟩) (by assumption) ?_
          rotate_left
          · intro w hSw; have c4 := (HG.out.keep hSw HG.out.lt).cell 4 rfl; dsimp only at c4; (try dsimp only at hSw); go_simp; (try with_reducible rfl)
          try simp only [Act.put, List.setIfInBounds_toArray, List.set_cons_zero, List.set_cons_succ]
          refine wpAnyH_take (i := 8) (oi := ⟨some 25, _, _, _, _, _⟩) (v := ?_) rfl (by kernel_rfl) (by kernel_rfl) (by kernel_rfl) (fun _ _ _ h => h) (Or.inl ⟨by rfl, ?_⟩) (by assumption) ?_
          rotate_left
          · intro w hSw; (try dsimp only at hSw); go_simp; (try with_reducible rfl)
          try simp only [Act.put, List.setIfInBounds_toArray, List.set_cons_zero, List.set_cons_succ]
          refine wpAnyH_take (i := 9) (oi := ⟨some 26, _, _, _, _, _⟩) (v := ?_) rfl (by kernel_rfl) (by kernel_rfl) (by kernel_rfl) (fun _ _ _ h => h) (Or.inl ⟨by rfl, ?_⟩) (by assumption) ?_
          rotate_left
          · intro w hSw; have c5 := (HG.out.keep hSw HG.out.lt).cell 5 rfl; dsimp only at c5; (try dsimp only at hSw); go_simp; (try with_reducible rfl)
          try simp only [Act.put, List.setIfInBounds_toArray, List.set_cons_zero, List.set_cons_succ]
          refine wpAnyH_ready (rs := [10]) (by kernel_rfl) (by simp) (AllReadyH.cons (o := ⟨some 27, _, _, _, _, _⟩) rfl (fun Kc hKc => ?_) AllReadyH.nil)
          go_simp
          go_at_call 29; refine (cfrom15 port lo hi _ _ HOU.out).mono ?_; rintro e w9 ⟨rfl, rfl⟩; dsimp only
          refine hKc.out _ _ (hHeld) (fun hHeld => ?_)
          clear hKc Kc
          try simp only [Act.put, List.setIfInBounds_toArray, List.set_cons_zero, List.set_cons_succ]
          refine wpAnyH_take (i := 11) (oi := ⟨some 28, _, _, _, _, _⟩) (v := ?_) rfl (by kernel_rfl) (by kernel_rfl) (by kernel_rfl) (fun _ _ _ h => h) (Or.inl ⟨by rfl, ?_⟩) (by assumption) ?_
          rotate_left
          · intro w hSw; (try dsimp only at hSw); go_simp; (try with_reducible rfl)
          try simp only [Act.put, List.setIfInBounds_toArray, List.set_cons_zero, List.set_cons_succ]
          refine wpAnyH_take (i := 12) (oi := ⟨some 29, _, _, _, _, _⟩) (v := ?_) rfl (by kernel_rfl) (by kernel_rfl) (by kernel_rfl) (fun _ _ _ h => h) (Or.inl ⟨by rfl, ?_⟩) (by assumption) ?_
          rotate_left
          · intro w hSw; (try dsimp only at hSw); go_simp; (try with_reducible rfl)
          try simp only [Act.put, List.setIfInBounds_toArray, List.set_cons_zero, List.set_cons_succ]
          refine wpAnyH_take (i := 13) (oi := ⟨some 30, _, _, _, _, _⟩) (v := undef) rfl (by kernel_rfl) (by kernel_rfl) (by kernel_rfl) (fun _ _ _ h => h) (Or.inr ⟨by rfl, rfl⟩) (by assumption) ?_
          try simp only [Act.put, List.setIfInBounds_toArray, List.set_cons_zero, List.set_cons_succ]
          refine wpAnyH_take (i := 14) (oi := ⟨some 31, _, _, _, _, _⟩) (v := undef) rfl (by kernel_rfl) (by kernel_rfl) (by kernel_rfl) (fun _ _ _ h => h) (Or.inr ⟨by rfl, rfl⟩) (by assumption) ?_
          try simp only [Act.put, List.setIfInBounds_toArray, List.set_cons_zero, List.set_cons_succ]
          refine wpAnyH_take (i := 15) (oi := ⟨some 32, _, _, _, _, _⟩) (v := undef) rfl (by kernel_rfl) (by kernel_rfl) (by kernel_rfl) (fun _ _ _ h => h) (Or.inr ⟨by rfl, rfl⟩) (by assumption) ?_
          try simp only [Act.put, List.setIfInBounds_toArray, List.set_cons_zero, List.set_cons_succ]
          refine wpAnyH_take (i := 16) (oi := ⟨some 33, _, _, _, _, _⟩) (v := undef) rfl (by kernel_rfl) (by kernel_rfl) (by kernel_rfl) (fun _ _ _ h => h) (Or.inr ⟨by rfl, rfl⟩) (by assumption) ?_
          try simp only [Act.put, List.setIfInBounds_toArray, List.set_cons_zero, List.set_cons_succ]
          refine wpAnyH_take (i := 17) (oi := ⟨some 34, _, _, _, _, _⟩) (v := undef) rfl (by kernel_rfl) (by kernel_rfl) (by kernel_rfl) (fun _ _ _ h => h) (Or.inr ⟨by rfl, rfl⟩) (by assumption) ?_
          try simp only [Act.put, List.setIfInBounds_toArray, List.set_cons_zero, List.set_cons_succ]
          refine wpAnyH_take (i := 18) (oi := ⟨some 35, _, _, _, _, _⟩) (v := undef) rfl (by kernel_rfl) (by kernel_rfl) (by kernel_rfl) (fun _ _ _ h => h) (Or.inr ⟨by rfl, rfl⟩) (by assumption) ?_
          try simp only [Act.put, List.setIfInBounds_toArray, List.set_cons_zero, List.set_cons_succ]
          refine wpAnyH_take (i := 19) (oi := ⟨some 36, _, _, _, _, _⟩) (v := ?_) rfl (by kernel_rfl) (by kernel_rfl) (by kernel_rfl) (fun _ _ _ h => h) (Or.inl ⟨by rfl, ?_⟩) (by assumption) ?_
          rotate_left
          · intro w hSw; (try dsimp only at hSw); go_simp; (try with_reducible rfl)
          try simp only [Act.put, List.setIfInBounds_toArray, List.set_cons_zero, List.set_cons_succ]
          refine wpAnyH_done (by kernel_rfl) ?_ _
          have yq := hHeld
          clear hHeld
          go_wp2
          go_ret
          exact ⟨by rw [HQ.out]; rfl, x2.trans (yq.mono x2.size)⟩

    · obtain rfl : k = fwds.length := by omega
      have t1 : ¬ (fwds.length : Int) < (fwds.length : Int) := by omega
      have HQ : Hid (q = true) := Go.Lib.hid (by rw [← HQ0.out]; unfold rightFw; rw [List.all_eq_true]; exact fun j hj => HK.out j (List.mem_range.1 hj))
      go_wp2_with fail
      go_ret
      exact ⟨by rw [HQ.out]; rfl, xo⟩
end Go.Proofs.YtoghcefamoefpaaGreatDoor

/- The document's In. -/
namespace Go.Proofs.YtoghcefamoefpaaGreatDoor
open Go.ChangeShapes Go.WideShapes Go.ChangeAt Go.RowKit
set_option linter.unusedVariables false
set_option linter.unusedSimpArgs false

/-- nets halved. -/
theorem half_u32 {a : Int} (h : 0 ≤ a ∧ a ≤ 4294967295) : IntKind.u32.wrap (Int.tdiv a 2) = a / 2 := by
  rw [Int.tdiv_eq_ediv_of_nonneg h.1]
  exact IntWalk.u32_in _ (by omega)
end Go.Proofs.YtoghcefamoefpaaGreatDoor

/- The document's own answers for package route: Right. -/
namespace Go.Proofs.YtoghcefamoefpaaGreatDoor
open Go.ChangeShapes Go.WideShapes Go.ChangeAt Go.RowKit
set_option linter.unusedVariables false
set_option linter.unusedSimpArgs false

theorem emod_leR {a p : Int} (h : 0 ≤ a) (hp : 0 < p) : a % p ≤ a := by
  have h1 := Int.mul_ediv_add_emod a p
  have h2 : 0 ≤ p * (a / p) := Int.mul_nonneg (Int.le_of_lt hp) (Int.ediv_nonneg h (Int.le_of_lt hp))
  omega
theorem rem_u64 {a p : Int} (h : 0 ≤ a ∧ a ≤ 4294967295) (hp : 0 < p) : IntKind.u64.wrap (Int.tmod a p) = a % p := by
  rw [Int.tmod_eq_emod_of_nonneg h.1]
  have h1 := Int.emod_nonneg a (Int.ne_of_gt hp)
  have h2 := emod_leR (p := p) h.1 hp
  exact IntWalk.u64_in _ (by omega)
theorem pow_leR {j d : Nat} (h : j ≤ d) : (2 : Int) ^ j ≤ 2 ^ d := by
  have := Nat.pow_le_pow_right (n := 2) (by decide) h
  exact_mod_cast this
end Go.Proofs.YtoghcefamoefpaaGreatDoor

/- The document's own answers for package route: Find, Zone. -/
namespace Go.Proofs.YtoghcefamoefpaaGreatDoor
open Go.ChangeShapes Go.WideShapes Go.ChangeAt Go.RowKit
set_option linter.unusedVariables false
set_option linter.unusedSimpArgs false

theorem stepR_yes {addr : Int} {b r : Rt} (h : (decide (b.bits < r.bits) && inN addr r.net r.bits) = true) : stepR addr b r = r := by unfold stepR; rw [if_pos h]
theorem stepR_no {addr : Int} {b r : Rt} (h : (decide (b.bits < r.bits) && inN addr r.net r.bits) = false) : stepR addr b r = b := by unfold stepR; rw [h, if_neg (by simp)]
theorem rt_one1 (r : Rt) : ∀ u ∈ rtL r, u.oneCell' = true := by simp [Value.oneCell']
/-- a struct and a bool, as two results. -/
theorem results_ct13 {P : Program} {fn : Func} {p u : Tmp} {t1 : TypeId} (h : fn.results = #[.cell p t1, .tmp u]) (tmps : Array Value) (w : World) (g1 : Nat) (c1 : List Value) (d1 : TypeDesc)
    (hp : tmps.getD p undef = .pointer (some ⟨g1, 0, none⟩)) (h1 : Bxo w g1 t1 c1)
    (u1 : P.underlying t1 = some d1) (r1 : (match d1 with | .struct _ | .array _ _ => true | _ => false) = true) (i1 : (P.info? t1).map (·.size) = some c1.length) :
    (results fn tmps).run P w = .ok (.tuple #[.agg c1.toArray, tmps.getD u undef]) w := by
  have hp' : tmps[p]?.getD undef = .pointer (some ⟨g1, 0, none⟩) := by simpa using hp
  have e1 := run_loadVar_row (P := P) w g1 t1 t1 c1.toArray (0, 0) d1 h1 u1 r1 (by simpa using i1)
  simp [results, h, hp', asAddr, e1]
theorem bestR_take (l : List Rt) (addr : Int) {k : Nat} (hk : k < l.length) : bestR (l.take (k + 1)) addr = stepR addr (bestR (l.take k) addr) (atR l k) := by
  rw [← List.take_append_getElem hk, bestR_snoc, atR_get hk]
end Go.Proofs.YtoghcefamoefpaaGreatDoor

/- What package route's functions owe, as propositions. -/
namespace Go.Proofs.YtoghcefamoefpaaGreatDoor
open Go.ChangeShapes Go.WideShapes Go.ChangeAt Go.RowKit
set_option linter.unusedVariables false
set_option linter.unusedSimpArgs false

def U32 (n : Int) : Prop := 0 ≤ n ∧ n ≤ 4294967295
def RightC13 : Prop := ∀ (l : List Rt) (A : Option Addr) (c N : Nat), l.length = N → N ≤ 100 → ∀ (w : World), RtsAt w l A c → ∀ (q : Bool), rightR l = q → Calls Tryz.prog 26 #[.slice A N c] w fun e w' => e = .returned (.bool q) ∧ Below w.heap.size w w'
/-- the first hundred. -/
theorem RtsAt.first100 {w : World} {L : List Rt} {A : Option Addr} {c : Nat} (h : RtsAt w L A c) : ∃ M : List Rt, L.take 100 = M ∧ M.length ≤ 100 ∧ RtsAt w M A c ∧ (if (100 : Int) < (L.length : Int) then (100 : Int) else (L.length : Int)) = (M.length : Int) ∧ (M.length : Int) ≤ (c : Int) := by
  have hlc := h.len
  have hl : (L.take 100).length = min 100 L.length := List.length_take
  refine ⟨_, rfl, by omega, h.take 100, ?_, by omega⟩
  split <;> omega
abbrev rA1 : Rt := ⟨167772160, 8, 0, 1500⟩
abbrev rA2 : Rt := ⟨167837696, 16, 2, 1500⟩
theorem awake_facts13 : findR [rA1, rA2] 167838211 = (rA2, true) ∧ zoneR [rA1, rA2] 167903747 = 0 ∧ zoneR [rA1, rA2] 1 = -1 ∧ rightR [rA1, rA2] = true := ⟨rfl, rfl, rfl, rfl⟩
end Go.Proofs.YtoghcefamoefpaaGreatDoor

/- The landed route: which bits count; In. -/
namespace Go.Proofs.YtoghcefamoefpaaGreatDoor
open Go.ChangeShapes Go.WideShapes Go.ChangeAt Go.RowKit
set_option linter.unusedVariables false
set_option linter.unusedSimpArgs false

theorem pow_of (b : Int) (h : 0 ≤ b ∧ b ≤ 32) : ∃ d : Nat, (32 - b).toNat = d ∧ d ≤ 32 ∧ powR b = ((2 ^ d : Nat) : Int) ∧ 2 ^ d ≤ 4294967296 ∧ 0 < 2 ^ d := by
  refine ⟨(32 - b).toNat, rfl, by omega, by unfold powR; rw [Int.natCast_pow]; rfl, ?_, Nat.pow_pos (by decide)⟩
  exact Nat.pow_le_pow_right (n := 2) (show 2 > 0 by decide) (show (32 - b).toNat ≤ 32 by omega)
theorem shl_mask (b : Int) (h : 0 ≤ b ∧ b ≤ 32) : 4294967295 * 2 ^ (32 - b).toNat % 4294967296 = 4294967296 - powR b := by
  obtain ⟨d, e1, e2, e3, e4, e5⟩ := pow_of b h
  have e6 : ((2 : Int) ^ (32 - b).toNat) = ((2 ^ d : Nat) : Int) := by rw [← e3]; rfl
  rw [e6, e3]
  omega
theorem andNot_mask (net b : Int) (hn : U32 net) (h : 0 ≤ b ∧ b ≤ 32) : bits .andNot .u32 net (4294967296 - powR b) = net % powR b := by
  obtain ⟨d, e1, e2, e3, e4, e5⟩ := pow_of b h
  rw [e3, u32_andNot net _ hn.1 (by have := hn.2; omega) (by omega) (by omega)]
  obtain ⟨n, rfl⟩ := Int.eq_ofNat_of_zero_le hn.1
  rw [show 4294967295 - ((4294967296 : Int) - ((2 ^ d : Nat) : Int)).toNat = 2 ^ d - 1 by omega, Int.toNat_natCast, Nat.and_two_pow_sub_one_eq_mod]
  rfl
theorem xor_mask (a n b : Int) (ha : U32 a) (hn : U32 n) (h : 0 ≤ b ∧ b ≤ 32) : (bits .and .u32 (bits .xor .u32 a n) (4294967296 - powR b) == 0) = (a / powR b == n / powR b) := by
  obtain ⟨d, e1, e2, e3, e4, e5⟩ := pow_of b h
  obtain ⟨x, rfl⟩ := Int.eq_ofNat_of_zero_le ha.1
  obtain ⟨y, rfl⟩ := Int.eq_ofNat_of_zero_le hn.1
  have hx : x < 2 ^ 32 := by have := ha.2; omega
  have hy : y < 2 ^ 32 := by have := hn.2; omega
  have hxy : x ^^^ y < 2 ^ 32 := Nat.xor_lt_two_pow hx hy
  rw [u32_xor_nat x y hx hy, e3, u32_and _ _ (by omega) (by omega) (by omega) (by omega), Int.toNat_natCast,
    show ((4294967296 : Int) - ((2 ^ d : Nat) : Int)).toNat = 2 ^ 32 - 2 ^ d by omega, nat_midmask 32 d _ e2, Nat.mod_eq_of_lt hxy]
  rw [Bool.eq_iff_iff, beq_iff_eq, beq_iff_eq]
  have q : (x ^^^ y) / 2 ^ d = x / 2 ^ d ^^^ y / 2 ^ d := Nat.xor_div_two_pow
  rw [q]
  have k1 : ((x : Int) / ((2 ^ d : Nat) : Int)) = ((x / 2 ^ d : Nat) : Int) := rfl
  have k2 : ((y : Int) / ((2 ^ d : Nat) : Int)) = ((y / 2 ^ d : Nat) : Int) := rfl
  rw [k1, k2]
  generalize x / 2 ^ d = u
  generalize y / 2 ^ d = v
  constructor
  · intro hz
    have h1 : (u ^^^ v) * 2 ^ d = 0 := by exact_mod_cast hz
    have h2 : u ^^^ v = 0 := (Nat.mul_eq_zero.1 h1).resolve_right (by omega)
    have h3 : u = v := by
      have := congrArg (· ^^^ v) h2
      simpa [Nat.xor_assoc] using this
    rw [h3]
  · intro hz
    have h3 : u = v := by exact_mod_cast hz
    rw [h3, Nat.xor_self, Nat.zero_mul]
    rfl
set_option maxRecDepth 100000 in
set_option maxHeartbeats 4000000 in
theorem ccounts (bits : Int) (hb : 0 ≤ bits ∧ bits ≤ 32) (w : World) (q : Int) (hq : 4294967296 - powR bits = q) :
    Calls Tryz.prog 59 #[.int .i64 bits] w fun e w' => e = .returned (.int .u32 q) ∧ w' = w := by
  have e1 : IntKind.i64.wrap (32 - bits) = 32 - bits := IntWalk.i64_in _ (by omega)
  go_enter Tryz.func59, Tryz.ntmps59
  have e2 := shl_mask bits hb
  go_wp2_with fail
  go_ret
  exact ⟨by rw [← hq, ← e2]; rfl, rfl⟩
end Go.Proofs.YtoghcefamoefpaaGreatDoor

/- The landed route: a route that may be; a net among routes. -/
namespace Go.Proofs.YtoghcefamoefpaaGreatDoor
open Go.ChangeShapes Go.WideShapes Go.ChangeAt Go.RowKit
set_option linter.unusedVariables false
set_option linter.unusedSimpArgs false

theorem okR_not {r : Rt} {q : Bool} (hq : okR r = q) (h : ¬ ((0 ≤ r.bits ∧ r.bits ≤ 32) ∧ (0 ≤ r.zone ∧ r.zone ≤ 7) ∧ (68 ≤ r.mtu ∧ r.mtu ≤ 65535) ∧ r.net % powR r.bits = 0)) : q = false := by
  cases q
  · rfl
  · exact absurd ((okR_iff r).1 hq) h
set_option maxRecDepth 100000 in
set_option maxHeartbeats 4000000 in
theorem cmayBe13 (r : Rt) (hr : RngRt r) (w : World) (q : Bool) (hq : okR r = q) :
    Calls Tryz.prog 39 #[rtV r] w fun e w' => e = .returned (.bool q) ∧ Below w.heap.size w w' := by
  have HO := Go.Lib.hid hq
  obtain ⟨net, bits, zone, mtu⟩ := r
  have hrn := hr.net
  dsimp only at hrn
  clear hq hr
  have y0 : Below w.heap.size w (w.alloc (oRt ⟨net, bits, zone, mtu⟩)) := (Below.refl _ _).alloc (Nat.le_refl _) _
  have hb := Bxo.made w 46 (rtL ⟨net, bits, zone, mtu⟩)
  go_enter Tryz.func39, Tryz.ntmps39
  go_upto_region 1 with fail
  generalize w.alloc (oRt ⟨net, bits, zone, mtu⟩) = W at *
  have c0 := hb.cell 0 rfl
  have c1 := hb.cell 1 rfl
  have c2 := hb.cell 2 rfl
  have c3 := hb.cell 3 rfl
  dsimp only at c0 c1 c2 c3
  clear hb
  by_cases a1 : bits < 0
  · have HQ : Hid (q = false) := Go.Lib.hid (okR_not HO.out (by dsimp only; omega))
    go_quiet (fail)
    go_wp2
    go_ret
    exact ⟨by rw [HQ.out]; rfl, below_dn y0 _⟩
  by_cases a2 : 32 < bits
  · have HQ : Hid (q = false) := Go.Lib.hid (okR_not HO.out (by dsimp only; omega))
    go_quiet (fail)
    go_wp2
    go_ret
    exact ⟨by rw [HQ.out]; rfl, below_dn y0 _⟩
  have hbb : 0 ≤ bits ∧ bits ≤ 32 := by omega
  obtain ⟨p, hp⟩ : ∃ p, powR bits = p := ⟨_, rfl⟩
  have HP := Go.Lib.hid hp
  have HC := Go.Lib.hid (show 4294967296 - powR bits = 4294967296 - p by rw [hp])
  have HB := Go.Lib.hid hbb
  have e1 : Go.bits .andNot .u32 net (4294967296 - p) = net % p := by rw [← hp]; exact andNot_mask net bits hrn hbb
  clear hp hbb
  by_cases a3 : net % p = 0
  · have t3 : (net % p != 0) = false := by simp [a3]
    have HZ := Go.Lib.hid a3
    clear a3
    go_quiet (first | (go_at_call 59; exact Calls.quiet_of_same (ccounts bits HB.out _ _ HC.out)))
    have HQ : Hid (q = (decide (0 ≤ zone) && (decide (zone < 8) && (decide (68 ≤ mtu) && decide (mtu ≤ 65535))))) := Go.Lib.hid (by
      rw [← HO.out, Bool.eq_iff_iff, okR_iff]
      simp only [Bool.and_eq_true, decide_eq_true_eq]
      rw [HP.out]
      have := HB.out
      have := HZ.out
      omega)
    clear e1 t3 a1 a2 HC HB HZ
    by_cases b1 : 0 ≤ zone
    · by_cases b2 : zone < 8
      · by_cases b3 : 68 ≤ mtu
        · by_cases b4 : mtu ≤ 65535
          · go_wp2
            go_ret
            exact ⟨by rw [HQ.out]; simp [b1, b2, b3, b4], below_dn y0 _⟩
          · go_wp2
            go_ret
            exact ⟨by rw [HQ.out]; simp [b1, b2, b3, b4], below_dn y0 _⟩
        · go_wp2
          go_ret
          exact ⟨by rw [HQ.out]; simp [b1, b2, b3]; intros; omega, below_dn y0 _⟩
      · go_wp2
        go_ret
        exact ⟨by rw [HQ.out]; simp [b1, b2]; intros; omega, below_dn y0 _⟩
    · go_wp2
      go_ret
      exact ⟨by rw [HQ.out]; simp [b1]; intros; omega, below_dn y0 _⟩
  · have t3 : (net % p != 0) = true := by simpa using a3
    have HQ : Hid (q = false) := Go.Lib.hid (okR_not HO.out (by dsimp only; rw [HP.out]; omega))
    clear a3
    go_quiet (first | (go_at_call 59; exact Calls.quiet_of_same (ccounts bits HB.out _ _ HC.out)))
    go_wp2
    go_ret
    exact ⟨by rw [HQ.out]; rfl, below_dn y0 _⟩
/-- a net among routes. -/
theorem any_no {l : List Rt} {r : Rt} (h : ∀ j, j < l.length → sameN (atR l j) r = false) : l.any (sameN · r) = false := by
  rw [List.any_eq_false]
  intro x hx
  obtain ⟨j, hj, rfl⟩ := List.getElem_of_mem hx
  have := h j hj
  rw [atR_get hj] at this
  rw [this]
  simp
set_option maxRecDepth 100000 in
set_option maxHeartbeats 4000000 in
theorem chasNet (l : List Rt) (A : Option Addr) (c N : Nat) (hN : l.length = N) (r : Rt) (w : World) (h : RtsAt w l A c) (q : Bool) (hq : l.any (sameN · r) = q) :
    Calls Tryz.prog 40 #[.slice A N c, rtV r] w fun e w' => e = .returned (.bool q) ∧ Below w.heap.size w w' := by
  subst hN
  have HQ0 := Go.Lib.hid hq
  have HC := Go.Lib.hid h
  have hlc := h.len
  have hcc := h.cap
  have y0 : Below w.heap.size w (w.alloc (oRt r)) := (Below.refl _ _).alloc (Nat.le_refl _) _
  have hb := Bxo.made w 46 (rtL r)
  clear hq h
  go_enter Tryz.func40, Tryz.ntmps40
  go_upto_region 1 with fail
  generalize w.alloc (oRt r) = W at *
  have HB := Go.Lib.hid (show Bxo W w.heap.size 46 (rtL r) from hb)
  clear hb
  go_wp2_with fail
  go_loopw [9] (fun iv wr => ∃ k : Nat, iv = .int .i64 k ∧ k ≤ l.length ∧ Hid (∀ j, j < k → sameN (atR l j) r = false) ∧ Below W.heap.size W wr) (fun iv _ => l.length - (intOf iv).toNat)
  case atStart => exact ⟨0, rfl, by omega, Go.Lib.hid (fun j hj => by omega), Below.refl _ _⟩
  case round =>
    rename World => wo
    obtain ⟨k, rfl, hk, HK, yo⟩ := hrel
    have k0 : (0 : Int) ≤ (k : Int) := by omega
    have xo := y0.trans (yo.mono y0.size)
    by_cases hkl : k < l.length
    · have t1 : (k : Int) < (l.length : Int) := by omega
      obtain ⟨ad, rfl, hcell⟩ := HC.out.cell hkl
      obtain ⟨s, hs⟩ : ∃ s, l[k] = s := ⟨_, rfl⟩
      have HS : Hid (atR l k = s) := Go.Lib.hid (by rw [atR_get hkl]; exact hs)
      rw [hs] at hcell
      have HW := Go.Lib.hid (hcell wo xo)
      have y2 : Below W.heap.size W (wo.alloc (oRt s)) := below_alloc yo yo.size _
      have x2 : Below w.heap.size w (wo.alloc (oRt s)) := below_alloc xo xo.size _
      have hbx := Bxo.made wo 46 (rtL s)
      have HBo := Go.Lib.hid (HB.out.keep y2 HB.out.lt)
      clear hcell hs
      go_upto_region 4 with (refine wpList_load_at rfl 46 _ rfl (ad.add (k * 4)) rfl (rtL s) _ HW.out Tryz.underlying46 rfl info_rt ?_)
      generalize wo.alloc (oRt s) = W2 at *
      generalize wo.heap.size = g2 at *
      have HS2 := Go.Lib.hid (show Bxo W2 g2 46 (rtL s) from hbx)
      obtain ⟨net, bits, zone, mtu⟩ := r
      obtain ⟨snet, sbits, sz, sm⟩ := s
      have c0 := HBo.out.cell 0 rfl
      have c1 := HBo.out.cell 1 rfl
      have d0 := HS2.out.cell 0 rfl
      have d1 := HS2.out.cell 1 rfl
      dsimp only at c0 c1 d0 d1
      clear hbx HW
      by_cases b1 : snet = net
      · have t4 : (snet == net) = true := by simpa using b1
        by_cases b2 : sbits = bits
        · have t5 : (sbits == bits) = true := by simpa using b2
          have HQ : Hid (q = true) := Go.Lib.hid (by
            rw [← HQ0.out, List.any_eq_true]
            exact ⟨l[k], List.getElem_mem hkl, by rw [← atR_get hkl, HS.out]; exact (sameN_iff _ _).2 ⟨b1, b2⟩⟩)
          clear b1 b2
          go_wp2
          go_ret
          exact ⟨by rw [HQ.out]; rfl, x2⟩
        · have t5 : (sbits == bits) = false := by simpa using b2
          have HNE := Go.Lib.hid b2
          clear b1 b2
          go_wp2
          go_round
          case rel => exact ⟨k + 1, by go_num, by omega, Go.Lib.hid (fun j hj => by
            by_cases e : j = k
            · rw [e, HS.out]
              cases hx : sameN ⟨snet, sbits, sz, sm⟩ ⟨net, bits, zone, mtu⟩
              · rfl
              · exact absurd ((sameN_iff _ _).1 hx).2 HNE.out
            · exact HK.out j (by omega)), y2⟩
          case measure => simp [intOf]; omega
      · have t4 : (snet == net) = false := by simpa using b1
        have HNE := Go.Lib.hid b1
        clear b1
        go_wp2
        go_round
        case rel => exact ⟨k + 1, by go_num, by omega, Go.Lib.hid (fun j hj => by
          by_cases e : j = k
          · rw [e, HS.out]
            cases hx : sameN ⟨snet, sbits, sz, sm⟩ ⟨net, bits, zone, mtu⟩
            · rfl
            · exact absurd ((sameN_iff _ _).1 hx).1 HNE.out
          · exact HK.out j (by omega)), y2⟩
        case measure => simp [intOf]; omega
    · obtain rfl : k = l.length := by omega
      have t1 : ¬ (l.length : Int) < (l.length : Int) := by omega
      have HQ : Hid (q = false) := Go.Lib.hid (by rw [← HQ0.out]; exact any_no (fun j hj => HK.out j hj))
      go_wp2_with fail
      go_ret
      exact ⟨by rw [HQ.out]; rfl, xo⟩
end Go.Proofs.YtoghcefamoefpaaGreatDoor

/- The landed route: Right. -/
namespace Go.Proofs.YtoghcefamoefpaaGreatDoor
open Go.ChangeShapes Go.WideShapes Go.ChangeAt Go.RowKit
set_option linter.unusedVariables false
set_option linter.unusedSimpArgs false

theorem newAt_any {l : List Rt} {k : Nat} (hk : k < l.length) : newAt l k = !(l.take k).any (sameN · (atR l k)) := by
  unfold newAt
  rw [Bool.eq_iff_iff, List.all_eq_true, Bool.not_eq_true', List.any_eq_false]
  constructor
  · intro h x hx
    obtain ⟨j, hj, rfl⟩ := List.getElem_of_mem hx
    rw [List.length_take] at hj
    have h1 := h j (List.mem_range.2 (by omega))
    rw [atR_get (show j < l.length by omega)] at h1
    rw [List.getElem_take]
    simpa using h1
  · intro h j hj
    rw [List.mem_range] at hj
    have h1 := h ((l.take k)[j]'(by rw [List.length_take]; omega)) (List.getElem_mem _)
    rw [List.getElem_take] at h1
    rw [atR_get (show j < l.length by omega)]
    simpa using h1
theorem rightR_no {l : List Rt} {q : Bool} (hq : rightR l = q) {k : Nat} (hk : k < l.length) (h : okAt l k = false) : q = false := by
  rw [← hq]
  unfold rightR
  rw [List.all_eq_false]
  exact ⟨k, List.mem_range.2 hk, by rw [h]; simp⟩
set_option maxRecDepth 100000 in
set_option maxHeartbeats 8000000 in
theorem cright13n (l : List Rt) (A : Option Addr) (c N : Nat) (hN : l.length = N) (w : World) (h : RtsAt w l A c) (q : Bool) (hq : rightR l = q) : Calls Tryz.prog 26 #[.slice A N c] w fun e w' => e = .returned (.bool q) ∧ Below w.heap.size w w' := by
  subst hN
  have HQ0 := Go.Lib.hid hq
  have HC := Go.Lib.hid h
  have hlc := h.len
  have hcc := h.cap
  clear hq h
  by_cases h64 : 64 < l.length
  · have t64 : (64 : Int) < (l.length : Int) := by omega
    have HQ : Hid (q = false) := Go.Lib.hid (rightR_no HQ0.out h64 (by unfold okAt; rfl))
    go_enter Tryz.func26, Tryz.ntmps26
    go_wp2_with fail
    go_ret
    exact ⟨by rw [HQ.out]; rfl, Below.refl _ _⟩
  have t64 : ¬ (64 : Int) < (l.length : Int) := by omega
  go_enter Tryz.func26, Tryz.ntmps26
  go_wp2_with fail
  go_loopw [10] (fun iv wr => ∃ k : Nat, iv = .int .i64 k ∧ k ≤ l.length ∧ Hid (∀ j, j < k → okAt l j = true) ∧ Below w.heap.size w wr) (fun iv _ => l.length - (intOf iv).toNat)
  case atStart => exact ⟨0, rfl, by omega, Go.Lib.hid (fun j hj => by omega), Below.refl _ _⟩
  case round =>
    rename World => wo
    obtain ⟨k, rfl, hk, HK, yo⟩ := hrel
    have k0 : (0 : Int) ≤ (k : Int) := by omega
    by_cases hkl : k < l.length
    · have t1 : (k : Int) < (l.length : Int) := by omega
      have t2 : (k : Int) ≤ (c : Int) := by omega
      obtain ⟨ad, rfl, hcell⟩ := HC.out.cell hkl
      obtain ⟨r, hr⟩ : ∃ r, l[k] = r := ⟨_, rfl⟩
      have HR : Hid (atR l k = r) := Go.Lib.hid (by rw [atR_get hkl]; exact hr)
      have HRN : Hid (RngRt r) := Go.Lib.hid (by rw [← hr]; exact HC.out.rng _ (List.getElem_mem hkl))
      rw [hr] at hcell
      have HW := Go.Lib.hid (hcell wo yo)
      have x2 : Below w.heap.size w (wo.alloc (oRt r)) := below_alloc yo yo.size _
      have hbx := Bxo.made wo 46 (rtL r)
      have HTK : Hid ((l.take k).length = k) := Go.Lib.hid (by rw [List.length_take]; omega)
      have HTA : Hid (RtsAt (wo.alloc (oRt r)) (l.take k) (some ad) c) := Go.Lib.hid ((HC.out.at x2).take k)
      clear hcell hr
      go_upto_region 6 with (refine wpList_load_at rfl 46 _ rfl (ad.add (k * 4)) rfl (rtL r) _ HW.out Tryz.underlying46 rfl info_rt ?_)
      generalize wo.alloc (oRt r) = W at *
      generalize wo.heap.size = g at *
      have HB := Go.Lib.hid (show Bxo W g 46 (rtL r) from hbx)
      clear hbx HW
      obtain ⟨ok, hok⟩ : ∃ b, okR r = b := ⟨_, rfl⟩
      obtain ⟨an, han⟩ : ∃ b, (l.take k).any (sameN · r) = b := ⟨_, rfl⟩
      have HOK := Go.Lib.hid hok
      have HAN := Go.Lib.hid han
      have HAT : Hid (okAt l k = (ok && !an)) := Go.Lib.hid (by
        unfold okAt
        rw [newAt_any hkl, HR.out, hok, han, decide_eq_true (show k < 64 by omega), Bool.true_and])
      clear hok han
      cases ok
      · have HQ : Hid (q = false) := Go.Lib.hid (rightR_no HQ0.out hkl (by rw [HAT.out]; rfl))
        try simp only [Act.put, List.setIfInBounds_toArray, List.set_cons_zero, List.set_cons_succ]
        refine wp_region_held_drew (S := fun Y => Below W.heap.size W Y) (by kernel_rfl) ?_ (fun hHeld => ?_)
        · exact below_drew (Below.refl _ _)
        refine wpAnyH_take (i := 0) (oi := ⟨some 15, _, _, _, _, _⟩) (v := (rtV r)) rfl (by kernel_rfl) (by kernel_rfl) (by kernel_rfl) (fun _ _ _ h => h) (yieldsIf_load_at (by rfl) 46 _ rfl ⟨g, 0, none⟩ rfl (rtL r) _ (fun Y h => (HB.out.keep h HB.out.lt).at) Tryz.underlying46 rfl info_rt) (by assumption) ?_
        try simp only [Act.put, List.setIfInBounds_toArray, List.set_cons_zero, List.set_cons_succ]
        refine wpAnyH_ready (rs := [1]) (by kernel_rfl) (by simp) (AllReadyH.cons (o := ⟨some 16, _, _, _, _, _⟩) rfl (fun Kc hKc => ?_) AllReadyH.nil)
        go_simp
        go_at_call 39; refine (cmayBe13 r HRN.out _ _ HOK.out).mono ?_; rintro e w7 ⟨rfl, y7⟩; dsimp only
        refine hKc.out _ _ (hHeld.trans (y7.mono hHeld.size)) (fun hHeld => ?_)
        clear hKc Kc
        try simp only [Act.put, List.setIfInBounds_toArray, List.set_cons_zero, List.set_cons_succ]
        refine wpAnyH_take (i := 2) (oi := ⟨some 17, _, _, _, _, _⟩) (v := ?_) rfl (by kernel_rfl) (by kernel_rfl) (by kernel_rfl) (fun _ _ _ h => h) (Or.inl ⟨by rfl, ?_⟩) (by assumption) ?_
        rotate_left
        · intro w hSw; (try dsimp only at hSw); go_simp; (try with_reducible rfl)
        try simp only [Act.put, List.setIfInBounds_toArray, List.set_cons_zero, List.set_cons_succ]
        refine wpAnyH_take (i := 3) (oi := ⟨some 18, _, _, _, _, _⟩) (v := ?_) rfl (by kernel_rfl) (by kernel_rfl) (by kernel_rfl) (fun _ _ _ h => h) (Or.inl ⟨by rfl, ?_⟩) (by assumption) ?_
        rotate_left
        · intro w hSw; (try dsimp only at hSw); go_simp; (try with_reducible rfl)
        try simp only [Act.put, List.setIfInBounds_toArray, List.set_cons_zero, List.set_cons_succ]
        refine wpAnyH_take (i := 4) (oi := ⟨some 19, _, _, _, _, _⟩) (v := undef) rfl (by kernel_rfl) (by kernel_rfl) (by kernel_rfl) (fun _ _ _ h => h) (Or.inr ⟨by rfl, rfl⟩) (by assumption) ?_
        try simp only [Act.put, List.setIfInBounds_toArray, List.set_cons_zero, List.set_cons_succ]
        refine wpAnyH_take (i := 5) (oi := ⟨some 20, _, _, _, _, _⟩) (v := undef) rfl (by kernel_rfl) (by kernel_rfl) (by kernel_rfl) (fun _ _ _ h => h) (Or.inr ⟨by rfl, rfl⟩) (by assumption) ?_
        try simp only [Act.put, List.setIfInBounds_toArray, List.set_cons_zero, List.set_cons_succ]
        refine wpAnyH_take (i := 6) (oi := ⟨some 21, _, _, _, _, _⟩) (v := undef) rfl (by kernel_rfl) (by kernel_rfl) (by kernel_rfl) (fun _ _ _ h => h) (Or.inr ⟨by rfl, rfl⟩) (by assumption) ?_
        try simp only [Act.put, List.setIfInBounds_toArray, List.set_cons_zero, List.set_cons_succ]
        refine wpAnyH_take (i := 7) (oi := ⟨some 22, _, _, _, _, _⟩) (v := undef) rfl (by kernel_rfl) (by kernel_rfl) (by kernel_rfl) (fun _ _ _ h => h) (Or.inr ⟨by rfl, rfl⟩) (by assumption) ?_
        try simp only [Act.put, List.setIfInBounds_toArray, List.set_cons_zero, List.set_cons_succ]
        refine wpAnyH_take (i := 8) (oi := ⟨some 23, _, _, _, _, _⟩) (v := undef) rfl (by kernel_rfl) (by kernel_rfl) (by kernel_rfl) (fun _ _ _ h => h) (Or.inr ⟨by rfl, rfl⟩) (by assumption) ?_
        try simp only [Act.put, List.setIfInBounds_toArray, List.set_cons_zero, List.set_cons_succ]
        refine wpAnyH_take (i := 9) (oi := ⟨some 24, _, _, _, _, _⟩) (v := ?_) rfl (by kernel_rfl) (by kernel_rfl) (by kernel_rfl) (fun _ _ _ h => h) (Or.inl ⟨by rfl, ?_⟩) (by assumption) ?_
        rotate_left
        · intro w hSw; (try dsimp only at hSw); go_simp; (try with_reducible rfl)
        try simp only [Act.put, List.setIfInBounds_toArray, List.set_cons_zero, List.set_cons_succ]
        refine wpAnyH_done (by kernel_rfl) ?_ _
        have yq := hHeld
        clear hHeld
        go_wp2
        go_ret
        exact ⟨by rw [HQ.out]; rfl, x2.trans (yq.mono x2.size)⟩

      · cases an
        · have HKK : Hid (okAt l k = true) := Go.Lib.hid (by rw [HAT.out]; rfl)
          try simp only [Act.put, List.setIfInBounds_toArray, List.set_cons_zero, List.set_cons_succ]
          refine wp_region_held_drew (S := fun Y => Below W.heap.size W Y) (by kernel_rfl) ?_ (fun hHeld => ?_)
          · exact below_drew (Below.refl _ _)
          refine wpAnyH_take (i := 0) (oi := ⟨some 15, _, _, _, _, _⟩) (v := (rtV r)) rfl (by kernel_rfl) (by kernel_rfl) (by kernel_rfl) (fun _ _ _ h => h) (yieldsIf_load_at (by rfl) 46 _ rfl ⟨g, 0, none⟩ rfl (rtL r) _ (fun Y h => (HB.out.keep h HB.out.lt).at) Tryz.underlying46 rfl info_rt) (by assumption) ?_
          try simp only [Act.put, List.setIfInBounds_toArray, List.set_cons_zero, List.set_cons_succ]
          refine wpAnyH_ready (rs := [1]) (by kernel_rfl) (by simp) (AllReadyH.cons (o := ⟨some 16, _, _, _, _, _⟩) rfl (fun Kc hKc => ?_) AllReadyH.nil)
          go_simp
          go_at_call 39; refine (cmayBe13 r HRN.out _ _ HOK.out).mono ?_; rintro e w7 ⟨rfl, y7⟩; dsimp only
          refine hKc.out _ _ (hHeld.trans (y7.mono hHeld.size)) (fun hHeld => ?_)
          clear hKc Kc
          try simp only [Act.put, List.setIfInBounds_toArray, List.set_cons_zero, List.set_cons_succ]
          refine wpAnyH_take (i := 2) (oi := ⟨some 17, _, _, _, _, _⟩) (v := ?_) rfl (by kernel_rfl) (by kernel_rfl) (by kernel_rfl) (fun _ _ _ h => h) (Or.inl ⟨by rfl, ?_⟩) (by assumption) ?_
          rotate_left
          · intro w hSw; (try dsimp only at hSw); go_simp; (try with_reducible rfl)
          try simp only [Act.put, List.setIfInBounds_toArray, List.set_cons_zero, List.set_cons_succ]
          refine wpAnyH_take (i := 3) (oi := ⟨some 18, _, _, _, _, _⟩) (v := ?_) rfl (by kernel_rfl) (by kernel_rfl) (by kernel_rfl) (fun _ _ _ h => h) (Or.inl ⟨by rfl, ?_⟩) (by assumption) ?_
          rotate_left
          · intro w hSw; (try dsimp only at hSw); go_simp; (try with_reducible rfl)
          try simp only [Act.put, List.setIfInBounds_toArray, List.set_cons_zero, List.set_cons_succ]
          refine wpAnyH_take (i := 4) (oi := ⟨some 19, _, _, _, _, _⟩) (v := ?_) rfl (by kernel_rfl) (by kernel_rfl) (by kernel_rfl) (fun _ _ _ h => h) (Or.inl ⟨by rfl, ?_⟩) (by assumption) ?_
          rotate_left
          · intro w hSw; (try dsimp only at hSw); go_simp; (try with_reducible rfl)
          try simp only [Act.put, List.setIfInBounds_toArray, List.set_cons_zero, List.set_cons_succ]
          refine wpAnyH_take (i := 5) (oi := ⟨some 20, _, _, _, _, _⟩) (v := ?_) rfl (by kernel_rfl) (by kernel_rfl) (by kernel_rfl) (fun _ _ _ h => h) (Or.inl ⟨by rfl, ?_⟩) (by assumption) ?_
          rotate_left
          · intro w hSw; (try dsimp only at hSw); go_simp; (try with_reducible rfl)
          try simp only [Act.put, List.setIfInBounds_toArray, List.set_cons_zero, List.set_cons_succ]
          refine wpAnyH_take (i := 6) (oi := ⟨some 21, _, _, _, _, _⟩) (v := ?_) rfl (by kernel_rfl) (by kernel_rfl) (by kernel_rfl) (fun _ _ _ h => h) (Or.inl ⟨by rfl, ?_⟩) (by assumption) ?_
          rotate_left
          · intro w hSw; (try dsimp only at hSw); go_simp; (try with_reducible rfl)
          try simp only [Act.put, List.setIfInBounds_toArray, List.set_cons_zero, List.set_cons_succ]
          refine wpAnyH_take (i := 7) (oi := ⟨some 22, _, _, _, _, _⟩) (v := (rtV r)) rfl (by kernel_rfl) (by kernel_rfl) (by kernel_rfl) (fun _ _ _ h => h) (yieldsIf_load_at (by rfl) 46 _ rfl ⟨g, 0, none⟩ rfl (rtL r) _ (fun Y h => (HB.out.keep h HB.out.lt).at) Tryz.underlying46 rfl info_rt) (by assumption) ?_
          try simp only [Act.put, List.setIfInBounds_toArray, List.set_cons_zero, List.set_cons_succ]
          refine wpAnyH_ready (rs := [8]) (by kernel_rfl) (by simp) (AllReadyH.cons (o := ⟨some 23, _, _, _, _, _⟩) rfl (fun Kc hKc => ?_) AllReadyH.nil)
          go_simp
          go_at_call 40; refine (chasNet (l.take k) _ c k HTK.out r _ (HTA.out.at hHeld) _ HAN.out).mono ?_; rintro e w8 ⟨rfl, y8⟩; dsimp only
          refine hKc.out _ _ (hHeld.trans (y8.mono hHeld.size)) (fun hHeld => ?_)
          clear hKc Kc
          try simp only [Act.put, List.setIfInBounds_toArray, List.set_cons_zero, List.set_cons_succ]
          refine wpAnyH_take (i := 9) (oi := ⟨some 24, _, _, _, _, _⟩) (v := ?_) rfl (by kernel_rfl) (by kernel_rfl) (by kernel_rfl) (fun _ _ _ h => h) (Or.inl ⟨by rfl, ?_⟩) (by assumption) ?_
          rotate_left
          · intro w hSw; (try dsimp only at hSw); go_simp; (try with_reducible rfl)
          try simp only [Act.put, List.setIfInBounds_toArray, List.set_cons_zero, List.set_cons_succ]
          refine wpAnyH_done (by kernel_rfl) ?_ _
          have yq := hHeld
          clear hHeld
          go_wp2
          go_round
          case rel => exact ⟨k + 1, by go_num, by omega, Go.Lib.hid (fun j hj => by
            by_cases e : j = k
            · rw [e]; exact HKK.out
            · exact HK.out j (by omega)), x2.trans (yq.mono x2.size)⟩
          case measure => simp [intOf]; omega

        · have HQ : Hid (q = false) := Go.Lib.hid (rightR_no HQ0.out hkl (by rw [HAT.out]; rfl))
          try simp only [Act.put, List.setIfInBounds_toArray, List.set_cons_zero, List.set_cons_succ]
          refine wp_region_held_drew (S := fun Y => Below W.heap.size W Y) (by kernel_rfl) ?_ (fun hHeld => ?_)
          · exact below_drew (Below.refl _ _)
          refine wpAnyH_take (i := 0) (oi := ⟨some 15, _, _, _, _, _⟩) (v := (rtV r)) rfl (by kernel_rfl) (by kernel_rfl) (by kernel_rfl) (fun _ _ _ h => h) (yieldsIf_load_at (by rfl) 46 _ rfl ⟨g, 0, none⟩ rfl (rtL r) _ (fun Y h => (HB.out.keep h HB.out.lt).at) Tryz.underlying46 rfl info_rt) (by assumption) ?_
          try simp only [Act.put, List.setIfInBounds_toArray, List.set_cons_zero, List.set_cons_succ]
          refine wpAnyH_ready (rs := [1]) (by kernel_rfl) (by simp) (AllReadyH.cons (o := ⟨some 16, _, _, _, _, _⟩) rfl (fun Kc hKc => ?_) AllReadyH.nil)
          go_simp
          go_at_call 39; refine (cmayBe13 r HRN.out _ _ HOK.out).mono ?_; rintro e w7 ⟨rfl, y7⟩; dsimp only
          refine hKc.out _ _ (hHeld.trans (y7.mono hHeld.size)) (fun hHeld => ?_)
          clear hKc Kc
          try simp only [Act.put, List.setIfInBounds_toArray, List.set_cons_zero, List.set_cons_succ]
          refine wpAnyH_take (i := 2) (oi := ⟨some 17, _, _, _, _, _⟩) (v := ?_) rfl (by kernel_rfl) (by kernel_rfl) (by kernel_rfl) (fun _ _ _ h => h) (Or.inl ⟨by rfl, ?_⟩) (by assumption) ?_
          rotate_left
          · intro w hSw; (try dsimp only at hSw); go_simp; (try with_reducible rfl)
          try simp only [Act.put, List.setIfInBounds_toArray, List.set_cons_zero, List.set_cons_succ]
          refine wpAnyH_take (i := 3) (oi := ⟨some 18, _, _, _, _, _⟩) (v := ?_) rfl (by kernel_rfl) (by kernel_rfl) (by kernel_rfl) (fun _ _ _ h => h) (Or.inl ⟨by rfl, ?_⟩) (by assumption) ?_
          rotate_left
          · intro w hSw; (try dsimp only at hSw); go_simp; (try with_reducible rfl)
          try simp only [Act.put, List.setIfInBounds_toArray, List.set_cons_zero, List.set_cons_succ]
          refine wpAnyH_take (i := 4) (oi := ⟨some 19, _, _, _, _, _⟩) (v := ?_) rfl (by kernel_rfl) (by kernel_rfl) (by kernel_rfl) (fun _ _ _ h => h) (Or.inl ⟨by rfl, ?_⟩) (by assumption) ?_
          rotate_left
          · intro w hSw; (try dsimp only at hSw); go_simp; (try with_reducible rfl)
          try simp only [Act.put, List.setIfInBounds_toArray, List.set_cons_zero, List.set_cons_succ]
          refine wpAnyH_take (i := 5) (oi := ⟨some 20, _, _, _, _, _⟩) (v := ?_) rfl (by kernel_rfl) (by kernel_rfl) (by kernel_rfl) (fun _ _ _ h => h) (Or.inl ⟨by rfl, ?_⟩) (by assumption) ?_
          rotate_left
          · intro w hSw; (try dsimp only at hSw); go_simp; (try with_reducible rfl)
          try simp only [Act.put, List.setIfInBounds_toArray, List.set_cons_zero, List.set_cons_succ]
          refine wpAnyH_take (i := 6) (oi := ⟨some 21, _, _, _, _, _⟩) (v := ?_) rfl (by kernel_rfl) (by kernel_rfl) (by kernel_rfl) (fun _ _ _ h => h) (Or.inl ⟨by rfl, ?_⟩) (by assumption) ?_
          rotate_left
          · intro w hSw; (try dsimp only at hSw); go_simp; (try with_reducible rfl)
          try simp only [Act.put, List.setIfInBounds_toArray, List.set_cons_zero, List.set_cons_succ]
          refine wpAnyH_take (i := 7) (oi := ⟨some 22, _, _, _, _, _⟩) (v := (rtV r)) rfl (by kernel_rfl) (by kernel_rfl) (by kernel_rfl) (fun _ _ _ h => h) (yieldsIf_load_at (by rfl) 46 _ rfl ⟨g, 0, none⟩ rfl (rtL r) _ (fun Y h => (HB.out.keep h HB.out.lt).at) Tryz.underlying46 rfl info_rt) (by assumption) ?_
          try simp only [Act.put, List.setIfInBounds_toArray, List.set_cons_zero, List.set_cons_succ]
          refine wpAnyH_ready (rs := [8]) (by kernel_rfl) (by simp) (AllReadyH.cons (o := ⟨some 23, _, _, _, _, _⟩) rfl (fun Kc hKc => ?_) AllReadyH.nil)
          go_simp
          go_at_call 40; refine (chasNet (l.take k) _ c k HTK.out r _ (HTA.out.at hHeld) _ HAN.out).mono ?_; rintro e w8 ⟨rfl, y8⟩; dsimp only
          refine hKc.out _ _ (hHeld.trans (y8.mono hHeld.size)) (fun hHeld => ?_)
          clear hKc Kc
          try simp only [Act.put, List.setIfInBounds_toArray, List.set_cons_zero, List.set_cons_succ]
          refine wpAnyH_take (i := 9) (oi := ⟨some 24, _, _, _, _, _⟩) (v := ?_) rfl (by kernel_rfl) (by kernel_rfl) (by kernel_rfl) (fun _ _ _ h => h) (Or.inl ⟨by rfl, ?_⟩) (by assumption) ?_
          rotate_left
          · intro w hSw; (try dsimp only at hSw); go_simp; (try with_reducible rfl)
          try simp only [Act.put, List.setIfInBounds_toArray, List.set_cons_zero, List.set_cons_succ]
          refine wpAnyH_done (by kernel_rfl) ?_ _
          have yq := hHeld
          clear hHeld
          go_wp2
          go_ret
          exact ⟨by rw [HQ.out]; rfl, x2.trans (yq.mono x2.size)⟩

    · obtain rfl : k = l.length := by omega
      have t1 : ¬ (l.length : Int) < (l.length : Int) := by omega
      have HQ : Hid (q = true) := Go.Lib.hid (by rw [← HQ0.out]; unfold rightR; rw [List.all_eq_true]; exact fun j hj => HK.out j (List.mem_range.1 hj))
      go_wp2_with fail
      go_ret
      exact ⟨by rw [HQ.out]; rfl, yo⟩
theorem cright13 : RightC13 := fun l A c N hN _ w h q hq => cright13n l A c N hN w h q hq
end Go.Proofs.YtoghcefamoefpaaGreatDoor

/- The document's own answers for package rules: Right, Ask. -/
namespace Go.Proofs.YtoghcefamoefpaaGreatDoor
open Go.ChangeShapes Go.WideShapes Go.ChangeAt Go.RowKit
set_option linter.unusedVariables false
set_option linter.unusedSimpArgs false

theorem rightU_no {l : List Ru} {q : Bool} (hq : rightU l = q) {k : Nat} (hk : k < l.length) {r : Ru} (hr : atU l k = r) (h : ¬ OkU r) : q = false := by
  cases q
  · rfl
  · rw [rightU_iff] at hq
    have h1 := hq.2 _ (List.getElem_mem hk)
    rw [← atU_get hk, hr] at h1
    exact absurd ((okU_iff r).1 h1) h
theorem rightU_yes {l : List Ru} {q : Bool} (hq : rightU l = q) (h64 : l.length ≤ 64) (h : ∀ j, j < l.length → OkU (atU l j)) : q = true := by
  rw [← hq, rightU_iff]
  refine ⟨h64, fun r hr => ?_⟩
  obtain ⟨j, hj, rfl⟩ := List.getElem_of_mem hr
  have := h j hj
  rw [atU_get hj] at this
  exact (okU_iff _).2 this
theorem info_int14 : (Tryz.prog.info? 3).map (fun i => (i.zero, i.size, i.bytes)) = some (some (.int .i64 0), 1, 8) := by kernel_rfl
/-- the checks of a rule, number by number. -/
def chkU (r : Ru) (j : Nat) : Prop := match j with
  | 0 => -1 ≤ r.fr ∧ r.fr ≤ 7
  | 1 => -1 ≤ r.to ∧ r.to ≤ 7
  | 2 => 0 ≤ r.proto ∧ r.proto ≤ 255
  | 3 => 0 ≤ r.sbits ∧ r.sbits ≤ 32
  | 4 => 0 ≤ r.dbits ∧ r.dbits ≤ 32
  | 5 => 0 ≤ r.lo ∧ r.lo ≤ 65535
  | _ => 0 ≤ r.hi ∧ r.hi ≤ 65535
structure ChkU (r : Ru) (m : Nat) : Prop where
  to_ : ∀ j, j < m → chkU r j
theorem ChkU.next {r : Ru} {j : Nat} (h : ChkU r j) (h1 : chkU r j) : ChkU r (j + 1) := ⟨fun i hi => by
  by_cases e : i = j
  · rw [e]; exact h1
  · exact h.to_ i (by omega)⟩
theorem ChkU.ok {r : Ru} (h : ChkU r 7) (hs : r.lo ≤ r.hi) (ha : r.act = 1 ∨ r.act = 2) : OkU r :=
  ⟨h.to_ 0 (by omega), h.to_ 1 (by omega), h.to_ 2 (by omega), h.to_ 3 (by omega), h.to_ 4 (by omega), h.to_ 5 (by omega), h.to_ 6 (by omega), hs, ha⟩
end Go.Proofs.YtoghcefamoefpaaGreatDoor

/- The landed rules: isFrom, zonesFit, mayBe. -/
namespace Go.Proofs.YtoghcefamoefpaaGreatDoor
open Go.ChangeShapes Go.WideShapes Go.ChangeAt Go.RowKit
set_option linter.unusedVariables false
set_option linter.unusedSimpArgs false

theorem btw_false (a x b : Int) (h : ¬ (a ≤ x ∧ x ≤ b)) : btw a x b = false := by
  cases e : btw a x b
  · rfl
  · exact absurd ((btw_iff _ _ _).1 e) h
set_option maxRecDepth 100000 in
set_option maxHeartbeats 4000000 in
theorem cisFrom (n a b : Int) (w : World) (q : Bool) (hq : btw a n b = q) :
    Calls Tryz.prog 60 #[.int .i64 n, .int .i64 a, .int .i64 b] w fun e w' => e = .returned (.bool q) ∧ w' = w := by
  have HQ0 := Go.Lib.hid hq
  clear hq
  by_cases a1 : a ≤ n
  · by_cases a2 : n ≤ b
    · have HQ : Hid (q = true) := Go.Lib.hid (by rw [← HQ0.out]; exact (btw_iff _ _ _).2 ⟨a1, a2⟩)
      go_enter Tryz.func60, Tryz.ntmps60
      go_wp2_with fail
      go_ret
      exact ⟨by rw [HQ.out]; rfl, rfl⟩
    · have HQ : Hid (q = false) := Go.Lib.hid (by rw [← HQ0.out]; exact btw_false _ _ _ (fun h => a2 h.2))
      go_enter Tryz.func60, Tryz.ntmps60
      go_wp2_with fail
      go_ret
      exact ⟨by rw [HQ.out]; rfl, rfl⟩
  · have HQ : Hid (q = false) := Go.Lib.hid (by rw [← HQ0.out]; exact btw_false _ _ _ (fun h => a1 h.1))
    go_enter Tryz.func60, Tryz.ntmps60
    go_wp2_with fail
    go_ret
    exact ⟨by rw [HQ.out]; rfl, rfl⟩
set_option maxRecDepth 100000 in
set_option maxHeartbeats 4000000 in
theorem cmayBe (r : Ru) (w : World) (q : Bool) (hq : okU r = q) :
    Calls Tryz.prog 41 #[ruV r] w fun e w' => e = .returned (.bool q) ∧ Below w.heap.size w w' := by
  have y0 : Below w.heap.size w (w.alloc (oRu r)) := below_alloc (Below.refl _ _) (Nat.le_refl _) _
  have h1 := Bxo.made w 54 (ruL r)
  have HQ0 := Go.Lib.hid hq
  obtain ⟨fr, to_, proto, src, dst, sbits, dbits, lo, hi_, act⟩ := r
  clear hq
  go_enter Tryz.func41, Tryz.ntmps41
  go_upto_region 1 with fail
  generalize (w.alloc (oRu ⟨fr, to_, proto, src, dst, sbits, dbits, lo, hi_, act⟩)) = W at *
  have c0 := h1.cell 0 rfl
  have c1 := h1.cell 1 rfl
  dsimp only at c0 c1
  have H1 := Go.Lib.hid h1
  clear h1
  obtain ⟨b0, e0⟩ : ∃ b, btw (-1) fr 7 = b := ⟨_, rfl⟩
  obtain ⟨b1, e1⟩ : ∃ b, btw (-1) to_ 7 = b := ⟨_, rfl⟩
  obtain ⟨b2, e2⟩ : ∃ b, btw 0 proto 255 = b := ⟨_, rfl⟩
  obtain ⟨b5, e5⟩ : ∃ b, btw 0 sbits 32 = b := ⟨_, rfl⟩
  obtain ⟨b6, e6⟩ : ∃ b, btw 0 dbits 32 = b := ⟨_, rfl⟩
  obtain ⟨b7, e7⟩ : ∃ b, btw 0 lo hi_ = b := ⟨_, rfl⟩
  obtain ⟨b8, e8⟩ : ∃ b, decide (hi_ ≤ 65535) = b := ⟨_, rfl⟩
  obtain ⟨b9, e9⟩ : ∃ b, (act == 1) = b := ⟨_, rfl⟩
  obtain ⟨b10, e10⟩ : ∃ b, (act == 2) = b := ⟨_, rfl⟩
  have HQ : Hid (((b0 && b1) && ((b5 && b6) && ((b7 && b8) && (b2 && (b9 || b10))))) = q) := Go.Lib.hid (by
    rw [← HQ0.out, ← e0, ← e1, ← e2, ← e5, ← e6, ← e7, ← e8, ← e9, ← e10, Bool.eq_iff_iff]
    unfold okU
    simp only [Bool.and_eq_true, btw_iff, decide_eq_true_eq, Bool.or_eq_true, beq_iff_eq]
    omega)
  have E0 := Go.Lib.hid e0
  have E1 := Go.Lib.hid e1
  have E2 := Go.Lib.hid e2
  have E5 := Go.Lib.hid e5
  have E6 := Go.Lib.hid e6
  have E7 := Go.Lib.hid e7
  clear e0 e1 e2 e5 e6 e7 HQ0
  obtain ⟨z, hz⟩ : ∃ z, (b0 && b1) = z := ⟨_, rfl⟩
  obtain ⟨n, hn⟩ : ∃ n, (b5 && b6) = n := ⟨_, rfl⟩
  obtain ⟨p, hp⟩ : ∃ p, (b7 && b8) = p := ⟨_, rfl⟩
  rw [hz, hn, hp] at HQ
  go_cut [3] (fun s wx => s = .bool z ∧ W = wx)
  case first =>
    subst hz
    cases b0
    · go_wp2_with (go_at_call_of 60 (Value.int IntKind.i64 fr); refine (cisFrom fr (-1) 7 _ _ E0.out).mono ?_; rintro e w3 ⟨rfl, hw3⟩; subst w3; dsimp only)
      go_meet
      exact ⟨rfl, rfl⟩
    · go_wp2_with (first | (go_at_call_of 60 (Value.int IntKind.i64 fr); refine (cisFrom fr (-1) 7 _ _ E0.out).mono ?_; rintro e w3 ⟨rfl, hw3⟩; subst w3; dsimp only) | (go_at_call_of 60 (Value.int IntKind.i64 to_); refine (cisFrom to_ (-1) 7 _ _ E1.out).mono ?_; rintro e w3 ⟨rfl, hw3⟩; subst w3; dsimp only))
      go_meet
      exact ⟨by simp, rfl⟩
  case rest =>
  obtain ⟨rfl, rfl⟩ := hcut
  have c5 := H1.out.cell 5 rfl
  have c6 := H1.out.cell 6 rfl
  dsimp only at c5 c6
  clear c0 c1
  go_upto_region 2 with fail
  go_cut [4] (fun s wx => s = .bool n ∧ W = wx)
  case first =>
    subst hn
    cases b5
    · go_wp2_with (go_at_call_of 60 (Value.int IntKind.i64 sbits); refine (cisFrom sbits 0 32 _ _ E5.out).mono ?_; rintro e w3 ⟨rfl, hw3⟩; subst w3; dsimp only)
      go_meet
      exact ⟨rfl, rfl⟩
    · go_wp2_with (first | (go_at_call_of 60 (Value.int IntKind.i64 sbits); refine (cisFrom sbits 0 32 _ _ E5.out).mono ?_; rintro e w3 ⟨rfl, hw3⟩; subst w3; dsimp only) | (go_at_call_of 60 (Value.int IntKind.i64 dbits); refine (cisFrom dbits 0 32 _ _ E6.out).mono ?_; rintro e w3 ⟨rfl, hw3⟩; subst w3; dsimp only))
      go_meet
      exact ⟨by simp, rfl⟩
  case rest =>
  obtain ⟨rfl, rfl⟩ := hcut
  have c7 := H1.out.cell 7 rfl
  have c8 := H1.out.cell 8 rfl
  dsimp only at c7 c8
  clear c5 c6
  go_upto_region 3 with fail
  go_cut [5] (fun s wx => s = .bool p ∧ W = wx)
  case first =>
    subst hp
    cases b7
    · go_wp2_with (go_at_call_of 60 (Value.int IntKind.i64 lo); refine (cisFrom lo 0 hi_ _ _ E7.out).mono ?_; rintro e w3 ⟨rfl, hw3⟩; subst w3; dsimp only)
      go_meet
      exact ⟨rfl, rfl⟩
    · cases b8
      · have t8 : ¬ hi_ ≤ 65535 := of_decide_eq_false e8
        clear e8
        go_wp2_with (go_at_call_of 60 (Value.int IntKind.i64 lo); refine (cisFrom lo 0 hi_ _ _ E7.out).mono ?_; rintro e w3 ⟨rfl, hw3⟩; subst w3; dsimp only)
        go_meet
        exact ⟨rfl, rfl⟩
      · have t8 : hi_ ≤ 65535 := of_decide_eq_true e8
        clear e8
        go_wp2_with (go_at_call_of 60 (Value.int IntKind.i64 lo); refine (cisFrom lo 0 hi_ _ _ E7.out).mono ?_; rintro e w3 ⟨rfl, hw3⟩; subst w3; dsimp only)
        go_meet
        exact ⟨rfl, rfl⟩
  case rest =>
  obtain ⟨rfl, rfl⟩ := hcut
  have c2 := H1.out.cell 2 rfl
  have c9 := H1.out.cell 9 rfl
  dsimp only at c2 c9
  clear c7 c8 H1 e8
  cases z
  · cases n <;> cases p <;> (go_wp2_with fail; go_ret; exact ⟨by rw [← HQ.out]; rfl, y0⟩)
  cases n
  · cases p <;> (go_wp2_with fail; go_ret; exact ⟨by rw [← HQ.out]; rfl, y0⟩)
  cases p
  · go_wp2_with fail
    go_ret
    exact ⟨by rw [← HQ.out]; rfl, y0⟩
  cases b2
  · go_wp2_with (go_at_call_of 60 (Value.int IntKind.i64 proto); refine (cisFrom proto 0 255 _ _ E2.out).mono ?_; rintro e w3 ⟨rfl, hw3⟩; subst w3; dsimp only)
    go_ret
    exact ⟨by rw [← HQ.out]; rfl, y0⟩
  · cases b9 <;> cases b10 <;> (go_wp2_with (go_at_call_of 60 (Value.int IntKind.i64 proto); refine (cisFrom proto 0 255 _ _ E2.out).mono ?_; rintro e w3 ⟨rfl, hw3⟩; subst w3; dsimp only); go_ret; exact ⟨by rw [← HQ.out]; rfl, y0⟩)
end Go.Proofs.YtoghcefamoefpaaGreatDoor

/- What package rules's functions owe, as propositions. -/
namespace Go.Proofs.YtoghcefamoefpaaGreatDoor
open Go.ChangeShapes Go.WideShapes Go.ChangeAt Go.RowKit
set_option linter.unusedVariables false

def RightC14 : Prop := ∀ (l : List Ru) (A : Option Addr) (c N : Nat), l.length = N → N ≤ 100 → ∀ (w : World), RusAt w l A c → ∀ (q : Bool), rightU l = q → Calls Tryz.prog 27 #[.slice A N c] w fun e w' => e = .returned (.bool q) ∧ Below w.heap.size w w'
/-- places, in a row. -/
def plcL (k : Nat) : List Value := [.int .i64 (k : Int)]
def PlcOut (w : World) (q : List Nat) (e : Ending) (w' : World) : Prop := ∃ (A : Option Addr) (c N : Nat), e = .returned (.slice A N c) ∧ q.length = N ∧ N ≤ c ∧ RdC w' A (q.flatMap plcL) ∧ Below w.heap.size w w'
end Go.Proofs.YtoghcefamoefpaaGreatDoor

/- The landed rules: Fits, Right. -/
namespace Go.Proofs.YtoghcefamoefpaaGreatDoor
open Go.ChangeShapes Go.WideShapes Go.ChangeAt Go.RowKit
set_option linter.unusedVariables false
set_option linter.unusedSimpArgs false

set_option maxRecDepth 100000 in
set_option maxHeartbeats 8000000 in
theorem cright14n (l : List Ru) (A : Option Addr) (c N : Nat) (hN : l.length = N) (w : World) (h : RusAt w l A c) (q : Bool) (hq : rightU l = q) : Calls Tryz.prog 27 #[.slice A N c] w fun e w' => e = .returned (.bool q) ∧ Below w.heap.size w w' := by
  subst hN
  have HQ0 := Go.Lib.hid hq
  have HC := Go.Lib.hid h
  have hlc := h.len
  have hcc := h.cap
  clear hq h
  by_cases h64 : 64 < l.length
  · have t64 : (64 : Int) < (l.length : Int) := by omega
    have HQ : Hid (q = false) := Go.Lib.hid (by
      rw [← HQ0.out]
      unfold rightU
      rw [decide_eq_false (by omega), Bool.false_and])
    go_enter Tryz.func27, Tryz.ntmps27
    go_wp2_with fail
    go_ret
    exact ⟨by rw [HQ.out]; rfl, Below.refl _ _⟩
  have t64 : ¬ (64 : Int) < (l.length : Int) := by omega
  go_enter Tryz.func27, Tryz.ntmps27
  go_wp2_with fail
  go_loopw [10] (fun iv wr => ∃ k : Nat, iv = .int .i64 k ∧ k ≤ l.length ∧ Hid (∀ j, j < k → OkU (atU l j)) ∧ Below w.heap.size w wr) (fun iv _ => l.length - (intOf iv).toNat)
  case atStart => exact ⟨0, rfl, by omega, Go.Lib.hid (fun j hj => by omega), Below.refl _ _⟩
  case round =>
    rename World => wo
    obtain ⟨k, rfl, hk, HK, yo⟩ := hrel
    have k0 : (0 : Int) ≤ (k : Int) := by omega
    by_cases hkl : k < l.length
    · have t1 : (k : Int) < (l.length : Int) := by omega
      obtain ⟨ad, rfl, hcell⟩ := HC.out.cell hkl
      obtain ⟨r, hr⟩ : ∃ r, l[k] = r := ⟨_, rfl⟩
      have HR : Hid (atU l k = r) := Go.Lib.hid (by rw [atU_get hkl]; exact hr)
      rw [hr] at hcell
      have HW := Go.Lib.hid (hcell wo yo)
      have y2 : Below w.heap.size w (wo.alloc (oRu r)) := below_alloc yo yo.size _
      have hbx := Bxo.made wo 54 (ruL r)
      clear hcell hr
      go_upto_region 6 with (refine wpList_load_at rfl 54 _ rfl (ad.add (k * 10)) rfl (ruL r) _ HW.out Tryz.underlying54 rfl info_ru ?_)
      generalize wo.alloc (oRu r) = W at *
      generalize wo.heap.size = g at *
      have HB := Go.Lib.hid (show Bxo W g 54 (ruL r) from hbx)
      clear hbx HW
      obtain ⟨ok, hok⟩ : ∃ b, okU r = b := ⟨_, rfl⟩
      have HOK := Go.Lib.hid hok
      clear hok
      cases ok
      · have HQ : Hid (q = false) := Go.Lib.hid (rightU_no HQ0.out hkl HR.out (fun h => by
          have h2 := (okU_iff r).2 h
          rw [HOK.out] at h2
          cases h2))
        have tok1 : True := trivial
        go_wp2_with (first
          | (clear tok1; refine wpList_load_box rfl 54 _ rfl g rfl (ruL r) _ HB.out Tryz.underlying54 rfl info_ru ?_)
          | (go_at_call 41; refine (cmayBe r _ _ HOK.out).mono ?_; rintro e w7 ⟨rfl, y7⟩; have x7 := y2.trans (y7.mono y2.size); dsimp only))
        go_ret
        exact ⟨by rw [HQ.out]; rfl, x7⟩
      · have tok1 : True := trivial
        go_wp2_with (first
          | (clear tok1; refine wpList_load_box rfl 54 _ rfl g rfl (ruL r) _ HB.out Tryz.underlying54 rfl info_ru ?_)
          | (go_at_call 41; refine (cmayBe r _ _ HOK.out).mono ?_; rintro e w7 ⟨rfl, y7⟩; have x7 := y2.trans (y7.mono y2.size); dsimp only))
        go_round
        case rel => exact ⟨k + 1, by go_num, by omega, Go.Lib.hid (fun j hj => by
          by_cases e : j = k
          · rw [e, HR.out]; exact (okU_iff r).1 HOK.out
          · exact HK.out j (by omega)), x7⟩
        case measure => simp [intOf]; omega
    · obtain rfl : k = l.length := by omega
      have t1 : ¬ (l.length : Int) < (l.length : Int) := by omega
      have HQ : Hid (q = true) := Go.Lib.hid (rightU_yes HQ0.out (by omega) HK.out)
      go_wp2_with fail
      go_ret
      exact ⟨by rw [HQ.out]; rfl, yo⟩
theorem cright14 : RightC14 := fun l A c N hN _ w h q hq => cright14n l A c N hN w h q hq
end Go.Proofs.YtoghcefamoefpaaGreatDoor
