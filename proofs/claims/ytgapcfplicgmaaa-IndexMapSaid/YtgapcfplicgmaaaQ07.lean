/- Lemmas, several texts in one. -/
import Derived.Test.YtgapcfplicgmaaaQ06
/- Contracts of package index: putAnew, Del. -/
namespace Go.Proofs.Ytgapcfplicgmaaa
open Go.ChangeShapes Go.WideShapes Go.ChangeAt Go.RowKit
set_option linter.unusedVariables false
set_option linter.unusedSimpArgs false

theorem OwnT.lt {w : World} {base : Nat} {l : List Cl} {g N c : Nat} (h : OwnT w base l (some ⟨g, 0, none⟩) N c) : base ≤ g ∧ g < w.heap.size := by
  rcases own_addr h.own with ⟨e, _⟩ | ⟨g', e, hb, hl⟩
  · cases e
  · cases e; exact ⟨hb, hl⟩
set_option maxRecDepth 100000 in
set_option maxHeartbeats 8000000 in
theorem cputAnew (l : List Cl) (g c N base : Nat) (w : World) (h : OwnT w base l (some ⟨g, 0, none⟩) N c) (hbig : N ≤ 1024) (p : Nat) (hp : p < N) (y : Cl) (hy : atC l p = y) (l1 : List Cl) (hl1 : l.set p cl0 = l1) (hf : farC l1 y.key < N) (r : List Cl) (hr : reputC l p = r) :
    Calls Try.prog 31 #[.slice (some ⟨g, 0, none⟩) N c, .int .i64 p] w fun e w' => e = .returned (.tuple #[]) ∧ OwnT w' base r (some ⟨g, 0, none⟩) N c ∧ Gro g w w' := by
  have h0 : 0 < N := by omega
  have hnc := (own_cap h.own).1
  have hcm := (own_cap h.own).2
  unfold maxLen at hcm
  have hgl := h.lt.2
  have hne : w.heap.size ≠ g := by omega
  have i1 : (0 : Int) ≤ (p : Int) := by omega
  have i2 : (p : Int) < (N : Int) := by omega
  have HW := Go.Lib.hid (h.cell hp)
  rw [hy] at HW
  have RK : Hid (RngTp y.key) := Go.Lib.hid (by rw [← hy]; exact h.rng p)
  have y0 : Below w.heap.size w (w.alloc (oCl y)) := (Below.refl _ _).alloc (Nat.le_refl _) _
  have hbx := Bxo.made w 52 (clL y)
  have HO := Go.Lib.hid (h.keep y0)
  have HL1 : Hid (l1.length = N) := Go.Lib.hid (by rw [← hl1, List.length_set]; exact h.len)
  obtain ⟨s, hs_⟩ : ∃ s, seekP l1 y.key = s := ⟨_, rfl⟩
  have HS := Go.Lib.hid hs_
  have hs : s < N := by rw [← hs_]; unfold seekP; rw [HL1.out]; exact Nat.mod_lt _ h0
  have j1 : (0 : Int) ≤ (s : Int) := by omega
  have j2 : (s : Int) < (N : Int) := by omega
  have HFA := Go.Lib.hid hf
  have HRP : Hid (l1.set s y = r) := Go.Lib.hid (by rw [← hr]; unfold reputC; rw [hl1, hy, hs_])
  have HE1 := Go.Lib.hid hl1
  clear h hy hf hr hs_ hl1
  go_enter Try.func31, Try.ntmps31
  go_upto_region 1 with (refine wpList_load_at rfl 52 _ rfl ⟨g, p * 7, none⟩ rfl (clL y) _ HW.out Try.underlying52 rfl info_cl ?_)
  generalize w.alloc (oCl y) = W at *
  have HX := Go.Lib.hid hbx
  obtain ⟨g', cur, he, hb, hl, _, hn⟩ := HO.out.box h0
  cases he
  have HB := Go.Lib.hid hb
  have hcur : p * 7 + 7 ≤ cur.length := by
    have : (p + 1) * 7 ≤ c * 7 := Nat.mul_le_mul_right 7 (by omega)
    omega
  clear hbx hb HW
  go_upto_region 2 with (refine wpList_store_any rfl 52 _ _ rfl g (p * 7) 52 _ (clL cl0) _ rfl rfl rfl HB.out info_cl hcur (cl_one1 _) ?_; intro w2 hb2 ho2; have HB2 := Go.Lib.hid hb2; clear hb2)
  have HO2 : Hid (OwnT w2 base l1 (some ⟨g, 0, none⟩) N c) := Go.Lib.hid (by rw [← HE1.out]; exact HO.out.set HB.out hp rng_cl0 HB2.out)
  have HX := Go.Lib.hid (HX.out.only ho2 hne)
  clear HB2 HB HO
  try simp only [Act.put, List.setIfInBounds_toArray, List.set_cons_zero, List.set_cons_succ]
  refine wp_region_held_drew (S := fun Y => Gro g w2 Y) (by kernel_rfl) ?_ (fun hHeld => ?_)
  · exact (gro_below (below_drew (Below.refl _ _)))
  refine wpAnyH_take (i := 0) (oi := ⟨some 13, _, _, _, _, _⟩) (v := ?_) rfl (by kernel_rfl) (by kernel_rfl) (by kernel_rfl) (fun _ _ _ h => h) (Or.inl ⟨by rfl, ?_⟩) (by assumption) ?_
  rotate_left
  · intro w hSw; (try dsimp only at hSw); go_simp; (try with_reducible rfl)
  try simp only [Act.put, List.setIfInBounds_toArray, List.set_cons_zero, List.set_cons_succ]
  refine wpAnyH_take (i := 1) (oi := ⟨some 14, _, _, _, _, _⟩) (v := ?_) rfl (by kernel_rfl) (by kernel_rfl) (by kernel_rfl) (fun _ _ _ h => h) (Or.inl ⟨by rfl, ?_⟩) (by assumption) ?_
  rotate_left
  · intro w hSw; (try dsimp only at hSw); go_simp; (try with_reducible rfl)
  try simp only [Act.put, List.setIfInBounds_toArray, List.set_cons_zero, List.set_cons_succ]
  refine wpAnyH_take (i := 2) (oi := ⟨some 15, _, _, _, _, _⟩) (v := ?_) rfl (by kernel_rfl) (by kernel_rfl) (by kernel_rfl) (fun _ _ _ h => h) (Or.inl ⟨by rfl, ?_⟩) (by assumption) ?_
  rotate_left
  · intro w hSw; (try dsimp only at hSw); go_simp; (try with_reducible rfl)
  try simp only [Act.put, List.setIfInBounds_toArray, List.set_cons_zero, List.set_cons_succ]
  refine wpAnyH_take (i := 3) (oi := ⟨some 16, _, _, _, _, _⟩) (v := (tpV y.key)) rfl (by kernel_rfl) (by kernel_rfl) (by kernel_rfl) (fun _ _ _ h => h) (yieldsIf_load_at (by rfl) 25 _ rfl ((⟨w.heap.size, 0, none⟩ : Addr).add 1) rfl (tpL y.key) _ (fun Y h => key_cells (fun j v hv => (HX.out.gro h hne).at j v hv)) Try.underlying25 rfl info_tp) (by assumption) ?_
  try simp only [Act.put, List.setIfInBounds_toArray, List.set_cons_zero, List.set_cons_succ]
  refine wpAnyH_take (i := 5) (oi := ⟨some 18, _, _, _, _, _⟩) (v := (clV y)) rfl (by kernel_rfl) (by kernel_rfl) (by kernel_rfl) (fun _ _ _ h => h) (yieldsIf_load_at (by rfl) 52 _ rfl ⟨w.heap.size, 0, none⟩ rfl (clL y) _ (fun Y h => (HX.out.gro h hne).at) Try.underlying52 rfl info_cl) (by assumption) ?_
  try simp only [Act.put, List.setIfInBounds_toArray, List.set_cons_zero, List.set_cons_succ]
  refine wpAnyH_ready (rs := [4]) (by kernel_rfl) (by simp) (AllReadyH.cons (o := ⟨some 17, _, _, _, _, _⟩) rfl (fun Kc hKc => ?_) AllReadyH.nil)
  go_simp
  go_at_call 23; refine (cseek10 l1 (some ⟨g, 0, none⟩) c N HL1.out y.key RK.out _ (HO2.out.keep (below_drew (Below.refl _ _))).at h0 hbig HFA.out s HS.out).mono ?_; rintro e w3 ⟨rfl, y3⟩; have HO3 := Go.Lib.hid (HO2.out.keep ((below_drew (Below.refl _ _)).trans y3)); obtain ⟨g3, cur3, he3, hb3, hl3, _, hn3⟩ := HO3.out.box h0; cases he3; have HB3 := Go.Lib.hid hb3; have hc3 : s * 7 + 7 ≤ cur3.length := (by have : (s + 1) * 7 ≤ c * 7 := Nat.mul_le_mul_right 7 (by omega); omega); clear hb3; dsimp only
  refine hKc.out _ _ (hHeld.trans (gro_below y3)) (fun hHeld => ?_)
  clear hKc Kc
  try simp only [Act.put, List.setIfInBounds_toArray, List.set_cons_zero, List.set_cons_succ]
  refine wpAnyH_take (i := 6) (oi := ⟨some 19, _, _, _, _, _⟩) (v := ?_) rfl (by kernel_rfl) (by kernel_rfl) (by kernel_rfl) (fun _ _ _ h => h) (Or.inl ⟨by rfl, ?_⟩) (by assumption) ?_
  rotate_left
  · intro w hSw; (try dsimp only at hSw); go_simp; (try with_reducible rfl)
  try simp only [Act.put, List.setIfInBounds_toArray, List.set_cons_zero, List.set_cons_succ]
  refine wpAnyH_ready (rs := [7]) (by kernel_rfl) (by simp) (AllReadyH.cons (o := ⟨none, _, _, _, _, _⟩) rfl (fun Kc hKc => ?_) AllReadyH.nil)
  rw [if_pos (by rfl)]
  refine step_store_any 52 _ _ rfl g (s * 7) 52 _ (clL y) _ rfl rfl rfl HB3.out info_cl hc3 (cl_one1 _) ?_; intro w4 hb4 ho4; have HO4 := Go.Lib.hid (HO3.out.set HB3.out hs RK.out hb4); clear hb4
  refine hKc.out _ _ (hHeld.trans ho4.gro) (fun hHeld => ?_)
  clear hKc Kc
  try simp only [Act.put, List.setIfInBounds_toArray, List.set_cons_zero, List.set_cons_succ]
  refine wpAnyH_done (by kernel_rfl) ?_ _
  have yq := hHeld
  clear hHeld
  go_wp2
  go_end0
  exact ⟨rfl, by rw [← HRP.out]; exact HO4.out, (gro_below y0).trans (ho2.gro.trans yq)⟩
/-- while keys are put anew, in a row of the call's own. -/
structure DelO (w : World) (base N p E g c : Nat) (T : List Cl) (wr : World) (l : List Cl) (m f : Nat) : Prop where
  own : OwnT wr base l (some ⟨g, 0, none⟩) N c
  inv : DelI N p m E l
  fuel : E - m < f
  fin : delF f l ((p + m) % N) = T
  below : Below w.heap.size w wr
theorem DelO.end {w : World} {base N p E g c : Nat} {T : List Cl} {wr : World} {l : List Cl} {m f : Nat} (h : DelO w base N p E g c T wr l m f) (hu : (atC l ((p + m) % N)).used = false) : l = T := by
  have hf := h.fuel
  have hd := h.fin
  obtain ⟨g, rfl⟩ : ∃ g, f = g + 1 := ⟨f - 1, by omega⟩
  unfold delF at hd
  rw [if_neg (by rw [hu]; simp)] at hd
  exact hd
theorem DelO.next {w : World} {base N p E g c : Nat} {T : List Cl} {wr wx : World} {l : List Cl} {m f : Nat} (h : DelO w base N p E g c T wr l m f) (hu : (atC l ((p + m) % N)).used = true) (hb : w.heap.size ≤ base) (hw : Gro g wr wx) (ho : OwnT wx base (reputC l ((p + m) % N)) (some ⟨g, 0, none⟩) N c) : m < E ∧ DelO w base N p E g c T wx (reputC l ((p + m) % N)) (m + 1) (f - 1) := by
  have hf := h.fuel
  have hd := h.fin
  have hmE : m < E := by
    rcases Nat.lt_or_ge m E with k | k
    · exact k
    · have : m = E := by have := h.inv.e0; omega
      rw [this, h.inv.emp] at hu; cases hu
  obtain ⟨f', rfl⟩ : ∃ f', f = f' + 1 := ⟨f - 1, by omega⟩
  unfold delF at hd
  rw [if_pos hu, h.inv.len, add_mod3] at hd
  exact ⟨hmE, ⟨ho, (h.inv.step hu).1, by omega, hd, h.below.trans (hw.below (Nat.le_trans hb h.own.lt.1) h.below.size)⟩⟩
set_option maxRecDepth 100000 in
set_option maxHeartbeats 16000000 in
theorem cdel10 : DelC10 := by
  intro l A c N k w q hN h hbig rk hq
  have y0 : Below w.heap.size w (w.alloc (oTp k)) := (Below.refl _ _).alloc (Nat.le_refl _) _
  have h1 := Bxo.made w 25 (tpL k)
  have HC := Go.Lib.hid (h.at y0)
  have hlen := h.len
  have hcap := h.cap
  rw [hN] at hlen
  have HL := Go.Lib.hid hN
  have RK := Go.Lib.hid rk
  clear h rk
  obtain ⟨b, hb⟩ : ∃ b, rightCB l = b := ⟨_, rfl⟩
  have HB := Go.Lib.hid hb
  have HQ := Go.Lib.hid hq
  clear hq hN
  go_enter Try.func19, Try.ntmps19
  go_upto_region 1 with fail
  generalize w.alloc (oTp k) = W at *
  have HK := Go.Lib.hid h1
  clear h1
  go_upto_region 2 with (go_at_call 27; refine (cclone10 l A c N HL.out W HC.out hbig).mono ?_; rintro e w1 ⟨A1, c1, rfl, ho, y1⟩; have HO := Go.Lib.hid ho; have HK := Go.Lib.hid (HK.out.keep y1 HK.out.lt); have x1 := y0.trans (y1.mono y0.size); have hW := y0.size; clear ho; dsimp only)
  have hnc := (own_cap HO.out.own).1
  cases b
  · have HE : Hid (q = (l, 1)) := Go.Lib.hid (by rw [← HQ.out]; unfold delC; rw [hb]; simp)
    clear HQ hb
    go_wp2_with (first
      | (go_at_call 13; refine (cright10 l A1 c1 N w1 _ HL.out HO.out.at hbig HB.out).mono ?_; rintro e w2 ⟨rfl, y2⟩; have HO2 := Go.Lib.hid (HO.out.keep y2); have x2 := x1.trans (y2.mono x1.size); dsimp only))
    refine bodyPost_ret (v := .tuple #[.slice A1 N c1, .int .i64 1]) ?_ rfl (TabF.of HE.out HO2.out x2 hW)
    simp [results, Try.results19, go_sem]
  · have R := (rightCB_iff l).1 hb
    have hsz := sizeC_pos R.size
    rw [HL.out] at hsz
    have hn1 : 0 < N := by omega
    have HFA : Hid (farC l k < N) := Go.Lib.hid (by have := far_lt k R.room; rwa [HL.out] at this)
    have hsl0 := (R.seek k).1
    obtain ⟨p, hp⟩ : ∃ p, seekP l k = p := ⟨_, rfl⟩
    rw [hp] at hsl0
    have hsl := hsl0
    rw [HL.out] at hsl
    obtain ⟨y, hy⟩ : ∃ y, atC l p = y := ⟨_, rfl⟩
    have HP := Go.Lib.hid hp
    have HY := Go.Lib.hid hy
    have i1 : (0 : Int) ≤ (p : Int) := by omega
    have i2 : (p : Int) < (N : Int) := by omega
    have hdel : delC l k = if y.used = false then (l, 9) else (takeC l p, 0) := by
      unfold delC; rw [hb, hp, hy]; rfl
    have HQ : Hid ((if y.used = false then (l, 9) else (takeC l p, 0)) = q) := Go.Lib.hid (by rw [← hdel]; exact HQ.out)
    have HOL : Hid (y.used = true → ∃ E, DelI N p 1 E (l.set p cl0)) := Go.Lib.hid (fun hu => by rw [← HL.out]; exact R.hole hsl0 (by rw [hy]; exact hu))
    obtain ⟨g, cur, rfl, _, _, hgb, _⟩ := HO.out.box hn1
    clear hb R hp hy hdel hsl0
    go_upto_region 5 with (first
      | (refine wpList_load_box rfl 25 _ rfl w.heap.size rfl (tpL k) _ HK.out Try.underlying25 rfl info_tp ?_)
      | (go_at_call 13; refine (cright10 l _ c1 N w1 _ HL.out HO.out.at hbig HB.out).mono ?_; rintro e w2 ⟨rfl, y2⟩; have HO2 := Go.Lib.hid (HO.out.keep y2); have HK := Go.Lib.hid (HK.out.keep y2 HK.out.lt); have x2 := x1.trans (y2.mono x1.size); dsimp only)
      | (go_at_call 23; refine (cseek10 l _ c1 N HL.out k RK.out w2 HO2.out.at hn1 hbig HFA.out p HP.out).mono ?_; rintro e w4 ⟨rfl, y4⟩; have HO4 := Go.Lib.hid (HO2.out.keep y4); have x4 := x2.trans (y4.mono x2.size); dsimp only))
    have d0 := HO4.out.used hsl
    rw [HY.out] at d0
    cases hus : y.used
    · have HE : Hid (q = (l, 9)) := Go.Lib.hid (by rw [← HQ.out, hus]; rfl)
      rw [hus] at d0
      clear HQ HOL hus
      go_wp2
      refine bodyPost_ret (v := .tuple #[.slice (some ⟨g, 0, none⟩) N c1, .int .i64 9]) ?_ rfl (TabF.of HE.out HO4.out x4 hW)
      simp [results, Try.results19, go_sem]
    · obtain ⟨T, hT⟩ : ∃ T, takeC l p = T := ⟨_, rfl⟩
      have HE : Hid (q = (T, 0)) := Go.Lib.hid (by rw [← HQ.out, hus, if_neg (by simp), hT])
      obtain ⟨E, hE⟩ := HOL.out hus
      have HD := Go.Lib.hid hE
      have hEl := hE.e1
      have HT : Hid (delF N (l.set p cl0) ((p + 1) % N) = T) := Go.Lib.hid (by rw [← hT]; unfold takeC; rw [HL.out])
      rw [hus] at d0
      clear HQ HOL hT hE hus
      obtain ⟨g', cur', he, hbx, hcl, _, hnc'⟩ := HO4.out.box hn1
      cases he
      have HBX := Go.Lib.hid hbx
      have hcur : p * 7 + 7 ≤ cur'.length := by
        rw [hcl]
        have : (p + 1) * 7 ≤ c1 * 7 := Nat.mul_le_mul_right 7 (by omega)
        omega
      obtain ⟨p9, hp9⟩ : ∃ p9, (p + 1) % N = p9 := ⟨_, rfl⟩
      have HP9 := Go.Lib.hid hp9
      clear hbx hcl hnc' hp9
      go_wp2_with (first
        | (refine wpList_store_any rfl 52 _ _ rfl g (p * 7) 52 _ (clL cl0) _ rfl rfl rfl HBX.out info_cl hcur (cl_one1 _) ?_; intro w6 hb6 ho6; have HB6 := Go.Lib.hid hb6; clear hb6)
        | (go_at_call 30; refine (cafter (some ⟨g, 0, none⟩) c1 N p _ hn1 hbig hsl p9 HP9.out).mono ?_; rintro e w9 ⟨rfl, rfl⟩; dsimp only))
      have HO6 := Go.Lib.hid (HO4.out.set HBX.out hsl rng_cl0 HB6.out)
      have x6 : Below w.heap.size w w6 := x4.trans (ho6.below (Nat.le_trans hW hgb))
      clear HBX HB6 d0 HK HC HO HO2 HO4
      go_loopw [6] (fun x wr => ∃ (m f : Nat) (lc : List Cl), x = .int .i64 ((p + m) % N : Nat) ∧ DelO w W.heap.size N p E g c1 T wr lc m f) (fun x _ => N - distC N p (intOf x).toNat)
      case atStart => exact ⟨1, N, _, by rw [HP9.out], ⟨HO6.out, HD.out, by omega, HT.out, x6⟩⟩
      case round =>
        rename World => wo
        obtain ⟨m, f, lc, rfl, hi⟩ := hrel
        have HI := Go.Lib.hid hi
        have hmE := hi.inv.e0
        obtain ⟨j, hj⟩ : ∃ j, (p + m) % N = j := ⟨_, rfl⟩
        have hjl : j < N := by rw [← hj]; exact Nat.mod_lt _ hn1
        have HJ := Go.Lib.hid hj
        have HDJ : Hid (distC N p j = m) := Go.Lib.hid (by rw [← hj]; exact dist_of hsl (by omega))
        obtain ⟨z, hz⟩ : ∃ z, atC lc j = z := ⟨_, rfl⟩
        have HZ := Go.Lib.hid hz
        have e0 := hi.own.used hjl
        rw [hz] at e0
        have i3 : (0 : Int) ≤ (j : Int) := by omega
        have i4 : (j : Int) < (N : Int) := by omega
        rw [hj]
        clear hi hj hz
        cases hzu : z.used
        · have HLT : Hid (lc = T) := Go.Lib.hid (HI.out.end (by rw [HJ.out, HZ.out, hzu]))
          rw [hzu] at e0
          go_wp2
          refine bodyPost_ret (v := .tuple #[.slice (some ⟨g, 0, none⟩) N c1, .int .i64 0]) ?_ rfl (TabF.of (by rw [HLT.out]; exact HE.out) HI.out.own HI.out.below hW)
          simp [results, Try.results19, go_sem]
        · rw [hzu] at e0
          obtain ⟨l1, hl1⟩ : ∃ l1, lc.set j cl0 = l1 := ⟨_, rfl⟩
          have hlcn : lc.length = N := HI.out.own.len
          have hl1n : l1.length = N := by rw [← hl1, List.length_set]; exact hlcn
          have hu1 : usedN l1 < N := by
            have u1 := used_set (show j < lc.length by rw [hlcn]; exact hjl) cl0
            rw [HZ.out, hl1, hzu] at u1
            simp at u1
            have u2 : usedN lc ≤ lc.length := List.countP_le_length
            rw [hlcn] at u2
            omega
          have HF1 : Hid (farC l1 z.key < N) := Go.Lib.hid (by have := far_lt z.key (show usedN l1 < l1.length by rw [hl1n]; exact hu1); rwa [hl1n] at this)
          have HL1 := Go.Lib.hid hl1
          have HU : Hid ((atC lc ((p + m) % N)).used = true) := Go.Lib.hid (by rw [HJ.out, HZ.out]; exact hzu)
          obtain ⟨j9, hj9⟩ : ∃ j9, (j + 1) % N = j9 := ⟨_, rfl⟩
          have HJ9 := Go.Lib.hid hj9
          have HJ8 : Hid ((p + (m + 1)) % N = j9) := Go.Lib.hid (by rw [← hj9, ← HJ.out, add_mod3])
          clear hl1 hl1n hu1 hlcn hzu hj9
          go_wp2_with (first
            | (go_at_call 31; refine (cputAnew lc g c1 N W.heap.size wo HI.out.own hbig j hjl z HZ.out l1 HL1.out HF1.out _ rfl).mono ?_; rintro e w7 ⟨rfl, ho7, hg7⟩; have HO7 := Go.Lib.hid ho7; clear ho7; dsimp only)
            | (go_at_call 30; refine (cafter (some ⟨g, 0, none⟩) c1 N j _ hn1 hbig hjl j9 HJ9.out).mono ?_; rintro e w9 ⟨rfl, rfl⟩; dsimp only))
          have HX := Go.Lib.hid (HI.out.next HU.out hW hg7 (by rw [HJ.out]; exact HO7.out))
          obtain ⟨hx1, hx2⟩ := HX.out
          have HDN : Hid (distC N p j9 = m + 1) := Go.Lib.hid (by rw [← HJ8.out]; exact dist_of hsl (by omega))
          go_round
          case rel => exact ⟨m + 1, f - 1, _, by rw [HJ8.out], hx2⟩
          case measure => simp only [intOf, Int.toNat_natCast]; rw [HDN.out, HDJ.out]; omega
end Go.Proofs.Ytgapcfplicgmaaa
