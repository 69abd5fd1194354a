/- Lemmas, several texts in one. -/
import Derived.Test.YtofpalmghdapkaaQ06
import Derived.Test.YtofpalmghdapkaaQ02
import Derived.Test.YtofpalmghdapkaaQ04
/- Contracts of package index: putAnew, Del. -/
namespace Go.Proofs.Ytofpalmghdapkaa
open Go.ChangeShapes Go.WideShapes Go.ChangeAt Go.RowKit
set_option linter.unusedVariables false
set_option linter.unusedSimpArgs false

theorem OwnT.lt {w : World} {base : Nat} {l : List Cl} {g N c : Nat} (h : OwnT w base l (some ⟨g, 0, none⟩) N c) : base ≤ g ∧ g < w.heap.size := by
  rcases own_addr h.own with ⟨e, _⟩ | ⟨g', e, hb, hl⟩
  · cases e
  · cases e; exact ⟨hb, hl⟩
set_option maxRecDepth 100000 in
set_option maxHeartbeats 8000000 in
theorem cputAnew (l : List Cl) (g c N base : Nat) (w : World) (h : OwnT w base l (some ⟨g, 0, none⟩) N c) (hbig : N ≤ 1024) (p : Nat) (hp : p < N) (y : Cl) (hy : atC l p = y) (l1 : List Cl) (hl1 : l.set p cl0 = l1) (hf : farC l1 y.key < N) (r : List Cl) (hr : reputC l p = r) :
    Calls Try.prog 59 #[.slice (some ⟨g, 0, none⟩) N c, .int .i64 p] w fun e w' => e = .returned (.tuple #[]) ∧ OwnT w' base r (some ⟨g, 0, none⟩) N c ∧ Gro g w w' := by
  have h0 : 0 < N := by omega
  have hnc := (own_cap h.own).1
  have hcm := (own_cap h.own).2
  unfold maxLen at hcm
  have hgl := h.lt.2
  have hne : w.heap.size ≠ g := by omega
  have i1 : (0 : Int) ≤ (p : Int) := by omega
  have i2 : (p : Int) < (N : Int) := by omega
  have HW := Go.Lib.hid (h.cell hp)
  rw [hy] at HW
  have RK : Hid (RngTp y.key) := Go.Lib.hid (by rw [← hy]; exact h.rng p)
  have y0 : Below w.heap.size w (w.alloc (oCl y)) := (Below.refl _ _).alloc (Nat.le_refl _) _
  have hbx := Bxo.made w 100 (clL y)
  have HO := Go.Lib.hid (h.keep y0)
  have HL1 : Hid (l1.length = N) := Go.Lib.hid (by rw [← hl1, List.length_set]; exact h.len)
  obtain ⟨s, hs_⟩ : ∃ s, seekP l1 y.key = s := ⟨_, rfl⟩
  have HS := Go.Lib.hid hs_
  have hs : s < N := by rw [← hs_]; unfold seekP; rw [HL1.out]; exact Nat.mod_lt _ h0
  have j1 : (0 : Int) ≤ (s : Int) := by omega
  have j2 : (s : Int) < (N : Int) := by omega
  have HFA := Go.Lib.hid hf
  have HRP : Hid (l1.set s y = r) := Go.Lib.hid (by rw [← hr]; unfold reputC; rw [hl1, hy, hs_])
  have HE1 := Go.Lib.hid hl1
  clear h hy hf hr hs_ hl1
  go_enter Try.func59, Try.ntmps59
  go_upto_region 1 with (refine wpList_load_at rfl 100 _ rfl ⟨g, p * 7, none⟩ rfl (clL y) _ HW.out Try.underlying100 rfl info_cl ?_)
  generalize w.alloc (oCl y) = W at *
  have HX := Go.Lib.hid hbx
  obtain ⟨g', cur, he, hb, hl, _, hn⟩ := HO.out.box h0
  cases he
  have HB := Go.Lib.hid hb
  have hcur : p * 7 + 7 ≤ cur.length := by
    have : (p + 1) * 7 ≤ c * 7 := Nat.mul_le_mul_right 7 (by omega)
    omega
  clear hbx hb HW
  go_upto_region 2 with (refine wpList_store_any rfl 100 _ _ rfl g (p * 7) 100 _ (clL cl0) _ rfl rfl rfl HB.out info_cl hcur (cl_one1 _) ?_; intro w2 hb2 ho2; have HB2 := Go.Lib.hid hb2; clear hb2)
  have HO2 : Hid (OwnT w2 base l1 (some ⟨g, 0, none⟩) N c) := Go.Lib.hid (by rw [← HE1.out]; exact HO.out.set HB.out hp rng_cl0 HB2.out)
  have HX := Go.Lib.hid (HX.out.only ho2 hne)
  clear HB2 HB HO
  try simp only [Act.put, List.setIfInBounds_toArray, List.set_cons_zero, List.set_cons_succ]
  refine wp_region_held_drew (S := fun Y => Gro g w2 Y) (by kernel_rfl) ?_ (fun hHeld => ?_)
  · exact (gro_below (below_drew (Below.refl _ _)))
  refine wpAnyH_take (i := 0) (oi := ⟨some 13, _, _, _, _, _⟩) (v := ?_) rfl (by kernel_rfl) (by kernel_rfl) (by kernel_rfl) (fun _ _ _ h => h) (Or.inl ⟨by rfl, ?_⟩) (by assumption) ?_
  rotate_left
  · intro w hSw; (try dsimp only at hSw); go_simp; (try with_reducible rfl)
  try simp only [Act.put, List.setIfInBounds_toArray, List.set_cons_zero, List.set_cons_succ]
  refine wpAnyH_take (i := 1) (oi := ⟨some 14, _, _, _, _, _⟩) (v := ?_) rfl (by kernel_rfl) (by kernel_rfl) (by kernel_rfl) (fun _ _ _ h => h) (Or.inl ⟨by rfl, ?_⟩) (by assumption) ?_
  rotate_left
  · intro w hSw; (try dsimp only at hSw); go_simp; (try with_reducible rfl)
  try simp only [Act.put, List.setIfInBounds_toArray, List.set_cons_zero, List.set_cons_succ]
  refine wpAnyH_take (i := 2) (oi := ⟨some 15, _, _, _, _, _⟩) (v := ?_) rfl (by kernel_rfl) (by kernel_rfl) (by kernel_rfl) (fun _ _ _ h => h) (Or.inl ⟨by rfl, ?_⟩) (by assumption) ?_
  rotate_left
  · intro w hSw; (try dsimp only at hSw); go_simp; (try with_reducible rfl)
  try simp only [Act.put, List.setIfInBounds_toArray, List.set_cons_zero, List.set_cons_succ]
  refine wpAnyH_take (i := 3) (oi := ⟨some 16, _, _, _, _, _⟩) (v := (tpV y.key)) rfl (by kernel_rfl) (by kernel_rfl) (by kernel_rfl) (fun _ _ _ h => h) (yieldsIf_load_at (by rfl) 38 _ rfl ((⟨w.heap.size, 0, none⟩ : Addr).add 1) rfl (tpL y.key) _ (fun Y h => key_cells (fun j v hv => (HX.out.gro h hne).at j v hv)) Try.underlying38 rfl info_tp) (by assumption) ?_
  try simp only [Act.put, List.setIfInBounds_toArray, List.set_cons_zero, List.set_cons_succ]
  refine wpAnyH_take (i := 5) (oi := ⟨some 18, _, _, _, _, _⟩) (v := (clV y)) rfl (by kernel_rfl) (by kernel_rfl) (by kernel_rfl) (fun _ _ _ h => h) (yieldsIf_load_at (by rfl) 100 _ rfl ⟨w.heap.size, 0, none⟩ rfl (clL y) _ (fun Y h => (HX.out.gro h hne).at) Try.underlying100 rfl info_cl) (by assumption) ?_
  try simp only [Act.put, List.setIfInBounds_toArray, List.set_cons_zero, List.set_cons_succ]
  refine wpAnyH_ready (rs := [4]) (by kernel_rfl) (by simp) (AllReadyH.cons (o := ⟨some 17, _, _, _, _, _⟩) rfl (fun Kc hKc => ?_) AllReadyH.nil)
  go_simp
  go_at_call 47; refine (cseek10 l1 (some ⟨g, 0, none⟩) c N HL1.out y.key RK.out _ (HO2.out.keep (below_drew (Below.refl _ _))).at h0 hbig HFA.out s HS.out).mono ?_; rintro e w3 ⟨rfl, y3⟩; have HO3 := Go.Lib.hid (HO2.out.keep ((below_drew (Below.refl _ _)).trans y3)); obtain ⟨g3, cur3, he3, hb3, hl3, _, hn3⟩ := HO3.out.box h0; cases he3; have HB3 := Go.Lib.hid hb3; have hc3 : s * 7 + 7 ≤ cur3.length := (by have : (s + 1) * 7 ≤ c * 7 := Nat.mul_le_mul_right 7 (by omega); omega); clear hb3; dsimp only
  refine hKc.out _ _ (hHeld.trans (gro_below y3)) (fun hHeld => ?_)
  clear hKc Kc
  try simp only [Act.put, List.setIfInBounds_toArray, List.set_cons_zero, List.set_cons_succ]
  refine wpAnyH_take (i := 6) (oi := ⟨some 19, _, _, _, _, _⟩) (v := ?_) rfl (by kernel_rfl) (by kernel_rfl) (by kernel_rfl) (fun _ _ _ h => h) (Or.inl ⟨by rfl, ?_⟩) (by assumption) ?_
  rotate_left
  · intro w hSw; (try dsimp only at hSw); go_simp; (try with_reducible rfl)
  try simp only [Act.put, List.setIfInBounds_toArray, List.set_cons_zero, List.set_cons_succ]
  refine wpAnyH_ready (rs := [7]) (by kernel_rfl) (by simp) (AllReadyH.cons (o := ⟨none, _, _, _, _, _⟩) rfl (fun Kc hKc => ?_) AllReadyH.nil)
  rw [if_pos (by rfl)]
  refine step_store_any 100 _ _ rfl g (s * 7) 100 _ (clL y) _ rfl rfl rfl HB3.out info_cl hc3 (cl_one1 _) ?_; intro w4 hb4 ho4; have HO4 := Go.Lib.hid (HO3.out.set HB3.out hs RK.out hb4); clear hb4
  refine hKc.out _ _ (hHeld.trans ho4.gro) (fun hHeld => ?_)
  clear hKc Kc
  try simp only [Act.put, List.setIfInBounds_toArray, List.set_cons_zero, List.set_cons_succ]
  refine wpAnyH_done (by kernel_rfl) ?_ _
  have yq := hHeld
  clear hHeld
  go_wp2
  go_end0
  exact ⟨rfl, by rw [← HRP.out]; exact HO4.out, (gro_below y0).trans (ho2.gro.trans yq)⟩
/-- while keys are put anew, in a row of the call's own. -/
structure DelO (w : World) (base N p E g c : Nat) (T : List Cl) (wr : World) (l : List Cl) (m f : Nat) : Prop where
  own : OwnT wr base l (some ⟨g, 0, none⟩) N c
  inv : DelI N p m E l
  fuel : E - m < f
  fin : delF f l ((p + m) % N) = T
  below : Below w.heap.size w wr
theorem DelO.end {w : World} {base N p E g c : Nat} {T : List Cl} {wr : World} {l : List Cl} {m f : Nat} (h : DelO w base N p E g c T wr l m f) (hu : (atC l ((p + m) % N)).used = false) : l = T := by
  have hf := h.fuel
  have hd := h.fin
  obtain ⟨g, rfl⟩ : ∃ g, f = g + 1 := ⟨f - 1, by omega⟩
  unfold delF at hd
  rw [if_neg (by rw [hu]; simp)] at hd
  exact hd
theorem DelO.next {w : World} {base N p E g c : Nat} {T : List Cl} {wr wx : World} {l : List Cl} {m f : Nat} (h : DelO w base N p E g c T wr l m f) (hu : (atC l ((p + m) % N)).used = true) (hb : w.heap.size ≤ base) (hw : Gro g wr wx) (ho : OwnT wx base (reputC l ((p + m) % N)) (some ⟨g, 0, none⟩) N c) : m < E ∧ DelO w base N p E g c T wx (reputC l ((p + m) % N)) (m + 1) (f - 1) := by
  have hf := h.fuel
  have hd := h.fin
  have hmE : m < E := by
    rcases Nat.lt_or_ge m E with k | k
    · exact k
    · have : m = E := by have := h.inv.e0; omega
      rw [this, h.inv.emp] at hu; cases hu
  obtain ⟨f', rfl⟩ : ∃ f', f = f' + 1 := ⟨f - 1, by omega⟩
  unfold delF at hd
  rw [if_pos hu, h.inv.len, add_mod3] at hd
  exact ⟨hmE, ⟨ho, (h.inv.step hu).1, by omega, hd, h.below.trans (hw.below (Nat.le_trans hb h.own.lt.1) h.below.size)⟩⟩
set_option maxRecDepth 100000 in
set_option maxHeartbeats 16000000 in
theorem cdel10 : DelC10 := by
  intro l A c N k w q hN h hbig rk hq
  have y0 : Below w.heap.size w (w.alloc (oTp k)) := (Below.refl _ _).alloc (Nat.le_refl _) _
  have h1 := Bxo.made w 38 (tpL k)
  have HC := Go.Lib.hid (h.at y0)
  have hlen := h.len
  have hcap := h.cap
  rw [hN] at hlen
  have HL := Go.Lib.hid hN
  have RK := Go.Lib.hid rk
  clear h rk
  obtain ⟨b, hb⟩ : ∃ b, rightCB l = b := ⟨_, rfl⟩
  have HB := Go.Lib.hid hb
  have HQ := Go.Lib.hid hq
  clear hq hN
  go_enter Try.func50, Try.ntmps50
  go_upto_region 1 with fail
  generalize w.alloc (oTp k) = W at *
  have HK := Go.Lib.hid h1
  clear h1
  go_upto_region 2 with (go_at_call 53; refine (cclone10 l A c N HL.out W HC.out hbig).mono ?_; rintro e w1 ⟨A1, c1, rfl, ho, y1⟩; have HO := Go.Lib.hid ho; have HK := Go.Lib.hid (HK.out.keep y1 HK.out.lt); have x1 := y0.trans (y1.mono y0.size); have hW := y0.size; clear ho; dsimp only)
  have hnc := (own_cap HO.out.own).1
  cases b
  · have HE : Hid (q = (l, 1)) := Go.Lib.hid (by rw [← HQ.out]; unfold delC; rw [hb]; simp)
    clear HQ hb
    go_wp2_with (first
      | (go_at_call 46; refine (cright10 l A1 c1 N w1 _ HL.out HO.out.at hbig HB.out).mono ?_; rintro e w2 ⟨rfl, y2⟩; have HO2 := Go.Lib.hid (HO.out.keep y2); have x2 := x1.trans (y2.mono x1.size); dsimp only))
    refine bodyPost_ret (v := .tuple #[.slice A1 N c1, .int .i64 1]) ?_ rfl (TabF.of HE.out HO2.out x2 hW)
    simp [results, Try.results50, go_sem]
  · have R := (rightCB_iff l).1 hb
    have hsz := sizeC_pos R.size
    rw [HL.out] at hsz
    have hn1 : 0 < N := by omega
    have HFA : Hid (farC l k < N) := Go.Lib.hid (by have := far_lt k R.room; rwa [HL.out] at this)
    have hsl0 := (R.seek k).1
    obtain ⟨p, hp⟩ : ∃ p, seekP l k = p := ⟨_, rfl⟩
    rw [hp] at hsl0
    have hsl := hsl0
    rw [HL.out] at hsl
    obtain ⟨y, hy⟩ : ∃ y, atC l p = y := ⟨_, rfl⟩
    have HP := Go.Lib.hid hp
    have HY := Go.Lib.hid hy
    have i1 : (0 : Int) ≤ (p : Int) := by omega
    have i2 : (p : Int) < (N : Int) := by omega
    have hdel : delC l k = if y.used = false then (l, 9) else (takeC l p, 0) := by
      unfold delC; rw [hb, hp, hy]; rfl
    have HQ : Hid ((if y.used = false then (l, 9) else (takeC l p, 0)) = q) := Go.Lib.hid (by rw [← hdel]; exact HQ.out)
    have HOL : Hid (y.used = true → ∃ E, DelI N p 1 E (l.set p cl0)) := Go.Lib.hid (fun hu => by rw [← HL.out]; exact R.hole hsl0 (by rw [hy]; exact hu))
    obtain ⟨g, cur, rfl, _, _, hgb, _⟩ := HO.out.box hn1
    clear hb R hp hy hdel hsl0
    go_upto_region 5 with (first
      | (refine wpList_load_box rfl 38 _ rfl w.heap.size rfl (tpL k) _ HK.out Try.underlying38 rfl info_tp ?_)
      | (go_at_call 46; refine (cright10 l _ c1 N w1 _ HL.out HO.out.at hbig HB.out).mono ?_; rintro e w2 ⟨rfl, y2⟩; have HO2 := Go.Lib.hid (HO.out.keep y2); have HK := Go.Lib.hid (HK.out.keep y2 HK.out.lt); have x2 := x1.trans (y2.mono x1.size); dsimp only)
      | (go_at_call 47; refine (cseek10 l _ c1 N HL.out k RK.out w2 HO2.out.at hn1 hbig HFA.out p HP.out).mono ?_; rintro e w4 ⟨rfl, y4⟩; have HO4 := Go.Lib.hid (HO2.out.keep y4); have x4 := x2.trans (y4.mono x2.size); dsimp only))
    have d0 := HO4.out.used hsl
    rw [HY.out] at d0
    cases hus : y.used
    · have HE : Hid (q = (l, 9)) := Go.Lib.hid (by rw [← HQ.out, hus]; rfl)
      rw [hus] at d0
      clear HQ HOL hus
      go_wp2
      refine bodyPost_ret (v := .tuple #[.slice (some ⟨g, 0, none⟩) N c1, .int .i64 9]) ?_ rfl (TabF.of HE.out HO4.out x4 hW)
      simp [results, Try.results50, go_sem]
    · obtain ⟨T, hT⟩ : ∃ T, takeC l p = T := ⟨_, rfl⟩
      have HE : Hid (q = (T, 0)) := Go.Lib.hid (by rw [← HQ.out, hus, if_neg (by simp), hT])
      obtain ⟨E, hE⟩ := HOL.out hus
      have HD := Go.Lib.hid hE
      have hEl := hE.e1
      have HT : Hid (delF N (l.set p cl0) ((p + 1) % N) = T) := Go.Lib.hid (by rw [← hT]; unfold takeC; rw [HL.out])
      rw [hus] at d0
      clear HQ HOL hT hE hus
      obtain ⟨g', cur', he, hbx, hcl, _, hnc'⟩ := HO4.out.box hn1
      cases he
      have HBX := Go.Lib.hid hbx
      have hcur : p * 7 + 7 ≤ cur'.length := by
        rw [hcl]
        have : (p + 1) * 7 ≤ c1 * 7 := Nat.mul_le_mul_right 7 (by omega)
        omega
      obtain ⟨p9, hp9⟩ : ∃ p9, (p + 1) % N = p9 := ⟨_, rfl⟩
      have HP9 := Go.Lib.hid hp9
      clear hbx hcl hnc' hp9
      go_wp2_with (first
        | (refine wpList_store_any rfl 100 _ _ rfl g (p * 7) 100 _ (clL cl0) _ rfl rfl rfl HBX.out info_cl hcur (cl_one1 _) ?_; intro w6 hb6 ho6; have HB6 := Go.Lib.hid hb6; clear hb6)
        | (go_at_call 57; refine (cafter (some ⟨g, 0, none⟩) c1 N p _ hn1 hbig hsl p9 HP9.out).mono ?_; rintro e w9 ⟨rfl, rfl⟩; dsimp only))
      have HO6 := Go.Lib.hid (HO4.out.set HBX.out hsl rng_cl0 HB6.out)
      have x6 : Below w.heap.size w w6 := x4.trans (ho6.below (Nat.le_trans hW hgb))
      clear HBX HB6 d0 HK HC HO HO2 HO4
      go_loopw [6] (fun x wr => ∃ (m f : Nat) (lc : List Cl), x = .int .i64 ((p + m) % N : Nat) ∧ DelO w W.heap.size N p E g c1 T wr lc m f) (fun x _ => N - distC N p (intOf x).toNat)
      case atStart => exact ⟨1, N, _, by rw [HP9.out], ⟨HO6.out, HD.out, by omega, HT.out, x6⟩⟩
      case round =>
        rename World => wo
        obtain ⟨m, f, lc, rfl, hi⟩ := hrel
        have HI := Go.Lib.hid hi
        have hmE := hi.inv.e0
        obtain ⟨j, hj⟩ : ∃ j, (p + m) % N = j := ⟨_, rfl⟩
        have hjl : j < N := by rw [← hj]; exact Nat.mod_lt _ hn1
        have HJ := Go.Lib.hid hj
        have HDJ : Hid (distC N p j = m) := Go.Lib.hid (by rw [← hj]; exact dist_of hsl (by omega))
        obtain ⟨z, hz⟩ : ∃ z, atC lc j = z := ⟨_, rfl⟩
        have HZ := Go.Lib.hid hz
        have e0 := hi.own.used hjl
        rw [hz] at e0
        have i3 : (0 : Int) ≤ (j : Int) := by omega
        have i4 : (j : Int) < (N : Int) := by omega
        rw [hj]
        clear hi hj hz
        cases hzu : z.used
        · have HLT : Hid (lc = T) := Go.Lib.hid (HI.out.end (by rw [HJ.out, HZ.out, hzu]))
          rw [hzu] at e0
          go_wp2
          refine bodyPost_ret (v := .tuple #[.slice (some ⟨g, 0, none⟩) N c1, .int .i64 0]) ?_ rfl (TabF.of (by rw [HLT.out]; exact HE.out) HI.out.own HI.out.below hW)
          simp [results, Try.results50, go_sem]
        · rw [hzu] at e0
          obtain ⟨l1, hl1⟩ : ∃ l1, lc.set j cl0 = l1 := ⟨_, rfl⟩
          have hlcn : lc.length = N := HI.out.own.len
          have hl1n : l1.length = N := by rw [← hl1, List.length_set]; exact hlcn
          have hu1 : usedN l1 < N := by
            have u1 := used_set (show j < lc.length by rw [hlcn]; exact hjl) cl0
            rw [HZ.out, hl1, hzu] at u1
            simp at u1
            have u2 : usedN lc ≤ lc.length := List.countP_le_length
            rw [hlcn] at u2
            omega
          have HF1 : Hid (farC l1 z.key < N) := Go.Lib.hid (by have := far_lt z.key (show usedN l1 < l1.length by rw [hl1n]; exact hu1); rwa [hl1n] at this)
          have HL1 := Go.Lib.hid hl1
          have HU : Hid ((atC lc ((p + m) % N)).used = true) := Go.Lib.hid (by rw [HJ.out, HZ.out]; exact hzu)
          obtain ⟨j9, hj9⟩ : ∃ j9, (j + 1) % N = j9 := ⟨_, rfl⟩
          have HJ9 := Go.Lib.hid hj9
          have HJ8 : Hid ((p + (m + 1)) % N = j9) := Go.Lib.hid (by rw [← hj9, ← HJ.out, add_mod3])
          clear hl1 hl1n hu1 hlcn hzu hj9
          go_wp2_with (first
            | (go_at_call 59; refine (cputAnew lc g c1 N W.heap.size wo HI.out.own hbig j hjl z HZ.out l1 HL1.out HF1.out _ rfl).mono ?_; rintro e w7 ⟨rfl, ho7, hg7⟩; have HO7 := Go.Lib.hid ho7; clear ho7; dsimp only)
            | (go_at_call 57; refine (cafter (some ⟨g, 0, none⟩) c1 N j _ hn1 hbig hjl j9 HJ9.out).mono ?_; rintro e w9 ⟨rfl, rfl⟩; dsimp only))
          have HX := Go.Lib.hid (HI.out.next HU.out hW hg7 (by rw [HJ.out]; exact HO7.out))
          obtain ⟨hx1, hx2⟩ := HX.out
          have HDN : Hid (distC N p j9 = m + 1) := Go.Lib.hid (by rw [← HJ8.out]; exact dist_of hsl (by omega))
          go_round
          case rel => exact ⟨m + 1, f - 1, _, by rw [HJ8.out], hx2⟩
          case measure => simp only [intOf, Int.toNat_natCast]; rw [HDN.out, HDJ.out]; omega
end Go.Proofs.Ytofpalmghdapkaa

/- What package wheel's functions owe, over whatever a wheel is in memory; rows of numbers. -/
namespace Go.Proofs.Ytofpalmghdapkaa
open Go.ChangeShapes Go.WideShapes Go.ChangeAt Go.RowKit
set_option linter.unusedVariables false
set_option linter.unusedSimpArgs false

/-- numbers of a kind in a row. -/
structure InsAt (k : IntKind) (w : World) (l : List Int) (A : Option Addr) (c : Nat) : Prop where
  len : l.length ≤ c
  cap : c ≤ 9223372036854775807
  nil : A = none → c = 0
  rd : RdC w A (l.map (fun n => Value.int k n))
section
variable {k : IntKind} {w w' : World} {l : List Int} {A : Option Addr} {c : Nat}
theorem InsAt.keep (h : InsAt k w l A c) (y : Below w.heap.size w w') : InsAt k w' l A c := ⟨h.len, h.cap, h.nil, h.rd.keep y⟩
theorem InsAt.cell (h : InsAt k w l A c) {i : Nat} (hi : i < l.length) : ∃ ad, A = some ad ∧ ∀ Y, Below w.heap.size w Y → Y.cell? (ad.add i) = some (.int k l[i]) := by
  rcases h.rd with h0 | ⟨ad, e, hc⟩
  · have := congrArg List.length h0
    simp at this
    subst this
    simp at hi
  · refine ⟨ad, e, fun Y y => ?_⟩
    have h2 := hc i (.int k l[i]) (by simp [hi])
    exact (y.cell (World.block_lt_of_cell? w _ h2)).trans h2
theorem InsAt.keepB (h : InsAt k w l A c) (hk : ∀ ad, A = some ad → w'.heap[ad.block]? = w.heap[ad.block]?) : InsAt k w' l A c := by
  refine ⟨h.len, h.cap, h.nil, ?_⟩
  rcases h.rd with h0 | ⟨ad, e, hc⟩
  · exact .inl h0
  · refine .inr ⟨ad, e, fun j u hj => ?_⟩
    have q := World.cell?_of_block (w := w) (w' := w') (a := ad.add j) (by rw [block_add]; exact hk ad e)
    rw [q]
    exact hc j u hj
/-- its first ones. -/
theorem InsAt.take (h : InsAt k w l A c) (n : Nat) : InsAt k w (l.take n) A c := by
  refine ⟨by rw [List.length_take]; have := h.len; omega, h.cap, h.nil, ?_⟩
  rcases h.rd with h0 | ⟨ad, e, hc⟩
  · left
    have := congrArg List.length h0
    simp at this
    subst this
    simp
  · refine .inr ⟨ad, e, fun j u hj => hc j u ?_⟩
    rw [List.map_take, List.getElem?_take] at hj
    split at hj
    · exact hj
    · cases hj
end
/-- what is due is answered in memory of its own. -/
structure DueAt (w w' : World) (F' : Nat → Prop) (l : List Int) (A : Option Addr) (c : Nat) : Prop where
  ins : InsAt .i64 w' l A c
  apart : ∀ ad, A = some ad → w.heap.size ≤ ad.block ∧ ad.block < w'.heap.size ∧ ¬ F' ad.block
/-- what a wheel is in memory, and what its first four functions owe. -/
structure WheelB where
  Rep : World → Addr → Wh → (Nat → Prop) → Prop
  right : ∀ {w ad x F}, Rep w ad x F → RightW x
  lt : ∀ {w ad x F}, Rep w ad x F → ∀ b, F b → b < w.heap.size
  keep : ∀ {w w' ad x F}, Rep w ad x F → (∀ b, F b → w'.heap[b]? = w.heap[b]?) → w.heap.size ≤ w'.heap.size → Rep w' ad x F
  new : ∀ w, Calls Try.prog 28 #[] w fun e w' => ∃ ad F, e = .returned (.pointer (some ad)) ∧ Rep w' ad wh0 F ∧ (∀ b, F b → w.heap.size ≤ b) ∧ Below w.heap.size w w'
  set : ∀ {w ad x F}, Rep w ad x F → ∀ (n t : Int) (q : Wh × Int), setH x n t = q → Calls Try.prog 39 #[.pointer (some ad), .int .i64 n, .int .i64 t] w fun e w' => ∃ F', e = .returned (.int .i64 q.2) ∧ Rep w' ad q.1 F' ∧ Newer w F F' ∧ Moves w w' F
  drop : ∀ {w ad x F}, Rep w ad x F → ∀ (n : Int), I64 n → ∀ (q : Wh × Int), dropH x n = q → Calls Try.prog 36 #[.pointer (some ad), .int .i64 n] w fun e w' => ∃ F', e = .returned (.int .i64 q.2) ∧ Rep w' ad q.1 F' ∧ Newer w F F' ∧ Moves w w' F
  tick : ∀ {w ad x F}, Rep w ad x F → ∀ (now : Int) (q : Wh × List Int × Int), tickH x now = q → Calls Try.prog 38 #[.pointer (some ad), .int .i64 now] w fun e w' => ∃ F' A c, e = .returned (.tuple #[.slice A q.2.1.length c, .int .i64 q.2.2]) ∧ DueAt w w' F' q.2.1 A c ∧ Rep w' ad q.1 F' ∧ Newer w F F' ∧ Moves w w' F
/-- .. and the other three. -/
structure WheelC extends WheelB where
  when_ : ∀ {w ad x F}, Rep w ad x F → ∀ (n : Int), I64 n → ∀ (q : Int × Bool), whenH x n = q → Calls Try.prog 48 #[.pointer (some ad), .int .i64 n] w fun e w' => e = .returned (.tuple #[.int .i64 q.1, .bool q.2]) ∧ Below w.heap.size w w'
  waits : ∀ {w ad x F}, Rep w ad x F → ∀ (n : Int), (x.list.length : Int) = n → Calls Try.prog 40 #[.pointer (some ad)] w fun e w' => e = .returned (.int .i64 n) ∧ Below w.heap.size w w'
  now_ : ∀ {w ad x F}, Rep w ad x F → ∀ (n : Int), x.now = n → Calls Try.prog 30 #[.pointer (some ad)] w fun e w' => e = .returned (.int .i64 n) ∧ Below w.heap.size w w'
/-- a wheel in a law's hands. -/
structure WhI (K : WheelC) (w0 : World) (ad : Addr) (x : Wh) (F : Nat → Prop) (wr : World) : Prop where
  rep : K.Rep wr ad x F
  ge : ∀ b, F b → w0.heap.size ≤ b
  below : Below w0.heap.size w0 wr
section
variable {K : WheelC} {w0 wr wx : World} {ad : Addr} {x x' : Wh} {F F' : Nat → Prop}
theorem WhI.call (h : WhI K w0 ad x F wr) (y : Below wr.heap.size wr wx) : WhI K w0 ad x F wx :=
  ⟨K.keep h.rep (fun b hb => y.block b (K.lt h.rep b hb)) y.size, h.ge, h.below.trans (y.mono h.below.size)⟩
theorem WhI.turn (h : WhI K w0 ad x F wr) (r : K.Rep wx ad x' F') (n : Newer wr F F') (m : Moves wr wx F) : WhI K w0 ad x' F' wx :=
  ⟨r, fun b hb => (n b hb).elim (fun q => h.ge b q) (fun q => Nat.le_trans h.below.size q), h.below.trans (m.below h.ge h.below.size)⟩
theorem WhI.made (hb : Below w0.heap.size w0 wr) (r : K.Rep wx ad wh0 F) (n : ∀ b, F b → wr.heap.size ≤ b) (y : Below wr.heap.size wr wx) : WhI K w0 ad wh0 F wx :=
  ⟨r, fun b hf => Nat.le_trans hb.size (n b hf), hb.trans (y.mono hb.size)⟩
end
end Go.Proofs.Ytofpalmghdapkaa

/- The library's heap over a list of alarms in memory: up, down, whatever the memory is. -/
namespace Go.Proofs.Ytofpalmghdapkaa
open Go.ChangeShapes Go.WideShapes Go.ChangeAt Go.RowKit
set_option linter.unusedVariables false
set_option linter.unusedSimpArgs false

/-- what lies behind the library's heap at an address: a list of alarms that can be asked and swapped. -/
structure HeapC (ad : Addr) where
  Rep : World → List Al → (Nat → Prop) → Prop
  size : ∀ {w l F}, Rep w l F → l.length ≤ 256
  lt : ∀ {w l F}, Rep w l F → ∀ b, F b → b < w.heap.size
  keep : ∀ {w w' l F}, Rep w l F → (∀ b, F b → w'.heap[b]? = w.heap[b]?) → w.heap.size ≤ w'.heap.size → Rep w' l F
  less : ∀ {w l F}, Rep w l F → ∀ (i j : Nat) (q : Bool), i < l.length → j < l.length → ltA (atA l i) (atA l j) = q → Calls Try.prog 84 #[.pointer (some ad), .int .i64 i, .int .i64 j] w fun e w' => e = .returned (.bool q) ∧ Below w.heap.size w w'
  swap : ∀ {w l F}, Rep w l F → ∀ (i j : Nat), i < l.length → j < l.length → Calls Try.prog 87 #[.pointer (some ad), .int .i64 i, .int .i64 j] w fun e w' => e = .returned (.tuple #[]) ∧ Rep w' (swA l i j) F ∧ Moves w w' F
theorem meth_less (ad : Addr) (n : Nat) (w : World) : (method (n + 9) 116 (.pointer (some ad)) "Less").run Try.prog w = .ok (84, .pointer (some ad)) w := by kernel_rfl
theorem meth_swap (ad : Addr) (n : Nat) (w : World) : (method (n + 9) 116 (.pointer (some ad)) "Swap").run Try.prog w = .ok (87, .pointer (some ad)) w := by kernel_rfl
section
variable {ad : Addr} (K : HeapC ad)
theorem HeapC.at {K : HeapC ad} {w w' : World} {l : List Al} {F : Nat → Prop} (h : K.Rep w l F) (y : Below w.heap.size w w') : K.Rep w' l F := K.keep h (fun b hb => y.block b (K.lt h b hb)) y.size
set_option maxRecDepth 100000 in
set_option maxHeartbeats 4000000 in
theorem hup (l : List Al) (F : Nat → Prop) (j n : Nat) (w : World) (h : K.Rep w l F) (hn : n ≤ l.length) (hj : j < n) (hu : UpA l n j) :
    Calls Try.prog 64 #[.iface 116 (.pointer (some ad)), .int .i64 j] w fun e w' => e = .returned (.tuple #[]) ∧ ∃ l', K.Rep w' l' F ∧ Moves w w' F ∧ OrdA n l l' ∧ HeapA l' n := by
  have HK := Go.Lib.hid h
  have HU := Go.Lib.hid hu
  have hsz := K.size h
  clear h hu
  have mL := meth_less ad
  have mS := meth_swap ad
  go_enter Try.func64, Try.ntmps64
  go_wp2_with fail
  go_loopw [1] (fun x wr => ∃ (i : Nat) (lc : List Al), x = .int .i64 i ∧ i < n ∧ Hid (K.Rep wr lc F ∧ UpA lc n i ∧ OrdA n l lc ∧ Moves w wr F)) (fun x _ => (intOf x).toNat)
  case atStart => exact ⟨j, l, rfl, hj, Go.Lib.hid ⟨HK.out, HU.out, OrdA.refl _ _, Moves.refl _ _⟩⟩
  case round =>
    rename World => wo
    obtain ⟨i, lc, rfl, hi, HI⟩ := hrel
    obtain ⟨hr, hu, ho, hm⟩ := HI.out
    have HR := Go.Lib.hid hr
    have HO := Go.Lib.hid ho
    have HM := Go.Lib.hid hm
    have HU2 := Go.Lib.hid hu
    have hlc := ho.len
    clear hr hu ho hm HI
    by_cases h0 : i = 0
    · subst h0
      have HP : Hid (HeapA lc n) := Go.Lib.hid HU2.out.top
      go_wp2
      refine bodyPost_end (results_none rfl _ _ _) rfl ?_
      exact ⟨rfl, lc, HR.out, HM.out, HO.out, HP.out⟩
    · have hp := par_lt (show 0 < i by omega)
      obtain ⟨p, hpe⟩ : ∃ p, parA i = p := ⟨_, rfl⟩
      have HPE := Go.Lib.hid hpe
      rw [hpe] at hp
      have e1 : IntKind.i64.wrap ((i : Int) - 1) = (i : Int) - 1 := IntWalk.i64_in _ (by omega)
      have e2 : Int.tdiv ((i : Int) - 1) 2 = (p : Nat) := by rw [Int.tdiv_eq_ediv_of_nonneg (by omega), ← hpe]; unfold parA; omega
      have e3 : IntKind.i64.wrap (Int.tdiv ((i : Int) - 1) 2) = (p : Nat) := by rw [e2]; exact IntWalk.i64_in _ (by omega)
      have e4 : IntKind.i64.wrap ((p : Nat) : Int) = (p : Nat) := IntWalk.i64_in _ (by omega)
      have t0 : ((p : Int) == (i : Int)) = false := by simp; omega
      obtain ⟨q, hq⟩ : ∃ q, ltA (atA lc i) (atA lc p) = q := ⟨_, rfl⟩
      have HQ := Go.Lib.hid hq
      clear hpe hq
      cases q
      · have HP : Hid (HeapA lc n) := Go.Lib.hid (HU2.out.stop (by rw [HPE.out]; exact not_lt HQ.out))
        go_wp2_with (go_at_call 84; refine (K.less HR.out i p false (by omega) (by omega) HQ.out).mono ?_; rintro e w1 ⟨rfl, y1⟩; dsimp only)
        go_end0
        exact ⟨rfl, lc, HeapC.at HR.out y1, HM.out.trans (moves_below y1), HO.out, HP.out⟩
      · have HS : Hid (UpA (swA lc p i) n p) := Go.Lib.hid (by
          have := HU2.out.step (by omega) hi (by omega) (by rw [HPE.out]; exact HQ.out)
          rwa [HPE.out] at this)
        go_wp2_with (first
          | (go_at_call 84; refine (K.less HR.out i p true (by omega) (by omega) HQ.out).mono ?_; rintro e w1 ⟨rfl, y1⟩; dsimp only)
          | (go_at_call 87; refine (K.swap (HeapC.at HR.out y1) p i (by omega) (by omega)).mono ?_; rintro e w2 ⟨rfl, r2, m2⟩; have HR2 := Go.Lib.hid r2; clear r2; dsimp only))
        go_round
        case rel => exact ⟨p, _, rfl, by omega, Go.Lib.hid ⟨HR2.out, HS.out, HO.out.swap (by omega) hi hn, HM.out.trans ((moves_below y1).trans m2)⟩⟩
        case measure => simp [intOf]; omega
end
end Go.Proofs.Ytofpalmghdapkaa
