/- Lemmas, several texts in one. -/
import Derived.Test.YtgapcfplicgmaaaQ03
import Derived.Test.YtgapcfplicgmaaaQ02
/- Contracts of the document's own answers for package index: Del. -/
namespace Go.Proofs.Ytgapcfplicgmaaa
open Go.ChangeShapes Go.WideShapes Go.ChangeAt Go.RowKit
set_option linter.unusedVariables false
set_option linter.unusedSimpArgs false

theorem rright10n (l : List Cl) (A : Option Addr) (c N : Nat) (hN : l.length = N) (w : World) (h : CsAt w l A c) (b : Bool) (hb : rightCB l = b) :
    Calls Try.prog 14 #[.slice A N c] w fun e w' => e = .returned (.bool b) ∧ Below w.heap.size w w' := hN ▸ rright10 l A c w h b hb
theorem rseek10n (l : List Cl) (A : Option Addr) (c : Nat) (k : Tp) (rk : RngTp k) (w : World) (h : CsAt w l A c) (N : Nat) (hN : l.length = N) (h0 : 0 < N) (hbig : N ≤ 1024) (q : Int) (hq : seekI l k = q) :
    Calls Try.prog 24 #[.slice A N c, tpV k] w fun e w' => e = .returned (.int .i64 q) ∧ Below w.heap.size w w' := by
  subst hN
  exact rseek10 l A c k rk w h h0 hbig q hq
theorem rwith10n (l : List Cl) (A : Option Addr) (c : Nat) (p : Nat) (x : Cl) (w : World) (h : CsAt w l A c) (N : Nat) (hN : l.length = N) (hp : p < N) (hbig : N ≤ 1024) (rx : RngTp x.key) :
    Calls Try.prog 29 #[.slice A N c, .int .i64 p, clV x] w fun e w' => ∃ A' c', e = .returned (.slice A' N c') ∧ CsAt w' (l.set p x) A' c' ∧ Below w.heap.size w w' := by
  subst hN
  exact rwith10 l A c p x w h hp hbig rx
theorem TabPost.ofn {w w' : World} {q : List Cl × Int} {l : List Cl} {f : Int} {A : Option Addr} {c N : Nat} (hN : l.length = N) (hq : q = (l, f)) (hc : CsAt w' l A c) (y : Below w.heap.size w w') : TabPost w q (.returned (.tuple #[.slice A N c, .int .i64 f])) w' := by
  subst hN
  exact TabPost.of hq hc y
/-- while keys are put anew, in memory. -/
structure DelM (w : World) (N p E : Nat) (T : List Cl) (wr : World) (l : List Cl) (A : Option Addr) (c m f : Nat) : Prop where
  at_ : CsAt wr l A c
  inv : DelI N p m E l
  fuel : E - m < f
  fin : delF f l ((p + m) % N) = T
  below : Below w.heap.size w wr
theorem DelM.end {w : World} {N p E : Nat} {T : List Cl} {wr : World} {l : List Cl} {A : Option Addr} {c m f : Nat} (h : DelM w N p E T wr l A c m f) (hu : (atC l ((p + m) % N)).used = false) : l = T := by
  have hf := h.fuel
  have hd := h.fin
  obtain ⟨g, rfl⟩ : ∃ g, f = g + 1 := ⟨f - 1, by omega⟩
  unfold delF at hd
  rw [if_neg (by rw [hu]; simp)] at hd
  exact hd
theorem DelM.next {w : World} {N p E : Nat} {T : List Cl} {wr wx : World} {l : List Cl} {A A' : Option Addr} {c c' m f : Nat} (h : DelM w N p E T wr l A c m f) (hu : (atC l ((p + m) % N)).used = true) (y : Below wr.heap.size wr wx) (hc : CsAt wx (reputC l ((p + m) % N)) A' c') : m < E ∧ DelM w N p E T wx (reputC l ((p + m) % N)) A' c' (m + 1) (f - 1) := by
  have hf := h.fuel
  have hd := h.fin
  have hmE : m < E := by
    rcases Nat.lt_or_ge m E with k | k
    · exact k
    · have : m = E := by have := h.inv.e0; omega
      rw [this, h.inv.emp] at hu; cases hu
  obtain ⟨g, rfl⟩ : ∃ g, f = g + 1 := ⟨f - 1, by omega⟩
  unfold delF at hd
  rw [if_pos hu, h.inv.len, add_mod3] at hd
  exact ⟨hmE, ⟨hc, (h.inv.step hu).1, by omega, hd, h.below.trans (y.mono h.below.size)⟩⟩
set_option maxRecDepth 100000 in
set_option maxHeartbeats 16000000 in
theorem rdel10 (l : List Cl) (A : Option Addr) (c : Nat) (k : Tp) (rk : RngTp k) (w : World) (h : CsAt w l A c) (q : List Cl × Int) (hq : delC l k = q) :
    Calls Try.prog 20 #[.slice A l.length c, tpV k] w (TabPost w q) := by
  have y0 : Below w.heap.size w (w.alloc (oTp k)) := (Below.refl _ _).alloc (Nat.le_refl _) _
  have h1 := Bxo.made w 25 (tpL k)
  have HC := Go.Lib.hid (h.at y0)
  have hlen := h.len
  have hcap := h.cap
  have HCw := Go.Lib.hid h
  clear h
  obtain ⟨N, hN0⟩ : ∃ N, l.length = N := ⟨_, rfl⟩
  have hN := Go.Lib.hid hN0
  obtain ⟨b, hb⟩ : ∃ b, rightCB l = b := ⟨_, rfl⟩
  have HB := Go.Lib.hid hb
  cases b
  · have HE : Hid (q = (l, 1)) := Go.Lib.hid (by rw [← hq]; unfold delC; rw [hb]; simp)
    rw [hN0] at hlen ⊢
    clear hq hb hN0
    go_enter Try.func20, Try.ntmps20
    go_upto_region 1 with fail
    generalize w.alloc (oTp k) = W at *
    have HK := Go.Lib.hid h1
    clear h1
    go_wp2_with (first
      | (refine wpList_load_box rfl 25 _ rfl w.heap.size rfl (tpL k) _ HK.out Try.underlying25 rfl info_tp ?_)
      | (go_at_call 14; refine (rright10n l A c N hN.out W HC.out _ HB.out).mono ?_; rintro e w1 ⟨rfl, y1⟩; have HK := Go.Lib.hid (HK.out.keep y1 HK.out.lt); have x1 := y0.trans (y1.mono y0.size); dsimp only))
    refine bodyPost_ret (v := .tuple #[.slice A N c, .int .i64 1]) ?_ rfl (TabPost.ofn hN.out HE.out (HCw.out.at x1) x1)
    simp [results, Try.results20, go_sem]
  · have R := (rightCB_iff l).1 hb
    have hsz := sizeC_pos R.size
    have hfar := far_lt k R.room
    have hsl := (R.seek k).1
    have HSI : Hid (seekI l k = (seekP l k : Nat)) := Go.Lib.hid (by unfold seekI; rw [if_pos hfar])
    obtain ⟨p, hp⟩ : ∃ p, seekP l k = p := ⟨_, rfl⟩
    rw [hp] at hsl HSI
    obtain ⟨ad, rfl, hcell⟩ := HC.out.cell hsl
    obtain ⟨y, hy⟩ : ∃ y, atC l p = y := ⟨_, rfl⟩
    rw [hy] at hcell
    have hdel : delC l k = if y.used = false then (l, 9) else (takeC l p, 0) := by
      unfold delC; rw [hb, hp, hy]; rfl
    rw [hdel] at hq
    have HQ := Go.Lib.hid hq
    have HO : Hid (y.used = true → ∃ E, DelI N p 1 E (l.set p cl0)) := Go.Lib.hid (fun hu => by rw [← hN0]; exact R.hole hsl (by rw [hy]; exact hu))
    rw [hN0] at hlen hsl hsz ⊢
    have i1 : (0 : Int) ≤ (p : Int) := by omega
    have i2 : (p : Int) < (N : Int) := by omega
    clear hq hb R hfar hp hy hdel hN0
    go_enter Try.func20, Try.ntmps20
    go_upto_region 1 with fail
    generalize w.alloc (oTp k) = W at *
    have HK := Go.Lib.hid h1
    clear h1
    cases hus : y.used
    · have HE : Hid (q = (l, 9)) := Go.Lib.hid (by rw [← HQ.out, hus]; rfl)
      clear HQ
      go_wp2_with (first
      | (refine wpList_load_box rfl 25 _ rfl w.heap.size rfl (tpL k) _ HK.out Try.underlying25 rfl info_tp ?_)
      | (go_at_call 14; refine (rright10n l (some ad) c N hN.out W HC.out _ HB.out).mono ?_; rintro e w1 ⟨rfl, y1⟩; have HK := Go.Lib.hid (HK.out.keep y1 HK.out.lt); have x1 := y0.trans (y1.mono y0.size); dsimp only)
      | (go_at_call 24; refine (rseek10n l (some ad) c k rk w1 (HC.out.at y1) N hN.out (by omega) hsz.2 _ HSI.out).mono ?_; rintro e w3 ⟨rfl, y3⟩; have x3 := x1.trans (y3.mono x1.size); have z3 := y1.trans (y3.mono y1.size); have d0 := hcell _ z3 0 _ rfl; rw [add_add, Nat.add_zero, hus] at d0; dsimp only))
      refine bodyPost_ret (v := .tuple #[.slice (some ad) N c, .int .i64 9]) ?_ rfl (TabPost.ofn hN.out HE.out (HCw.out.at x3) x3)
      simp [results, Try.results20, go_sem]
    · obtain ⟨T, hT⟩ : ∃ T, takeC l p = T := ⟨_, rfl⟩
      have HE : Hid (q = (T, 0)) := Go.Lib.hid (by rw [← HQ.out, hus, if_neg (by simp), hT])
      obtain ⟨E, hE⟩ := HO.out hus
      have HD := Go.Lib.hid hE
      have hEl := hE.e1
      have HT : Hid (delF N (l.set p cl0) ((p + 1) % N) = T) := Go.Lib.hid (by rw [← hT]; unfold takeC; rw [hN.out])
      clear HQ HO hT hE
      go_upto_region 7 with (first
      | (refine wpList_load_box rfl 25 _ rfl w.heap.size rfl (tpL k) _ HK.out Try.underlying25 rfl info_tp ?_)
      | (go_at_call 14; refine (rright10n l (some ad) c N hN.out W HC.out _ HB.out).mono ?_; rintro e w1 ⟨rfl, y1⟩; have HK := Go.Lib.hid (HK.out.keep y1 HK.out.lt); have x1 := y0.trans (y1.mono y0.size); dsimp only)
      | (go_at_call 24; refine (rseek10n l (some ad) c k rk w1 (HC.out.at y1) N hN.out (by omega) hsz.2 _ HSI.out).mono ?_; rintro e w3 ⟨rfl, y3⟩; have x3 := x1.trans (y3.mono x1.size); have z3 := y1.trans (y3.mono y1.size); have d0 := hcell _ z3 0 _ rfl; rw [add_add, Nat.add_zero, hus] at d0; dsimp only)
      | (go_at_call 29; refine (rwith10n l (some ad) c p cl0 w3 (HC.out.at z3) N hN.out hsl hsz.2 rng_cl0).mono ?_; rintro e w5 ⟨A5, c5, rfl, hc5, y5⟩; have HC5 := Go.Lib.hid hc5; clear hc5; have x5 := x3.trans (y5.mono x3.size); dsimp only))
      have HM : Hid (DelM w N p E T w5 (l.set p cl0) A5 c5 1 N) := Go.Lib.hid ⟨HC5.out, HD.out, by omega, HT.out, x5⟩
      have e1 : IntKind.i64.wrap ((p : Int) + 1) = (p : Int) + 1 := IntWalk.i64_in _ (by omega)
      have e2 : Int.tmod ((p : Int) + 1) (N : Int) = ((p + 1) % N : Nat) := by rw [Int.tmod_eq_emod_of_nonneg (by omega), Int.natCast_emod, Int.natCast_add]; rfl
      have e2b := Nat.mod_lt (p + 1) (show 0 < N by omega)
      have e3 : IntKind.i64.wrap (Int.tmod ((p : Int) + 1) (N : Int)) = ((p + 1) % N : Nat) := by rw [e2]; exact IntWalk.i64_in _ (by omega)
      have e4 : IntKind.i64.wrap ((((p + 1) % N : Nat)) : Int) = ((p + 1) % N : Nat) := IntWalk.i64_in _ (by omega)
      have hN0 : ¬ N = 0 := by omega
      generalize hp1 : (p + 1) % N = p1 at *
      have HP1 := Go.Lib.hid hp1
      clear hp1 HC5 HD HT d0
      go_wp2_with fail
      clear e1 e2 e3 e4 x5 x3 z3 y3 y5 x1 y1
      go_loopw [7, 8] (fun o i wr => ∃ (l' : List Cl) (A' : Option Addr) (c' m f : Nat), o = .slice A' N c' ∧ i = .int .i64 ((p + m) % N : Nat) ∧ m < N ∧ DelM w N p E T wr l' A' c' m f) (fun o i _ => E - distC N p (intOf i).toNat)
      case atStart => exact ⟨_, A5, c5, 1, N, rfl, by rw [HP1.out], by omega, HM.out⟩
      case round =>
        rename World => wo
        obtain ⟨l', A', c', m, f, rfl, rfl, hm, hM⟩ := hrel
        have HM := Go.Lib.hid hM
        have hdm := dist_of hsl hm
        obtain ⟨j, hj⟩ : ∃ j, (p + m) % N = j := ⟨_, rfl⟩
        have hjl : j < N := by rw [← hj]; exact Nat.mod_lt _ (by omega)
        rw [hj] at hdm ⊢
        have HLN := Go.Lib.hid hM.inv.len
        obtain ⟨ad', rfl, hcell'⟩ := hM.at_.cell (i := j) (by rw [HLN.out]; exact hjl)
        obtain ⟨z, hz⟩ : ∃ z, atC l' j = z := ⟨_, rfl⟩
        rw [hz] at hcell'
        have HJ := Go.Lib.hid hj
        have HZ := Go.Lib.hid hz
        have hc'l := hM.at_.len
        rw [HLN.out] at hc'l
        have hc'c := hM.at_.cap
        have j1 : (0 : Int) ≤ (j : Int) := by omega
        have j2 : (j : Int) < (N : Int) := by omega
        have d0 := hcell' _ (Below.refl _ _) 0 _ rfl
        rw [add_add, Nat.add_zero] at d0
        clear hM hj hz
        cases huz : z.used
        · rw [huz] at d0
          have HLT : Hid (l' = T) := Go.Lib.hid (HM.out.end (by rw [HJ.out, HZ.out]; exact huz))
          go_wp2
          refine bodyPost_ret (v := .tuple #[.slice (some ad') N c', .int .i64 0]) ?_ rfl (TabPost.ofn HLN.out (by rw [HE.out, HLT.out]) HM.out.at_ HM.out.below)
          simp [results, Try.results20, go_sem]
        · rw [huz] at d0
          obtain ⟨zu, zk, zn⟩ := z
          dsimp only at huz
          subst huz
          have RZ : Hid (RngTp zk) := Go.Lib.hid (by have h := HM.out.at_.rng j; rw [HZ.out] at h; exact h)
          have y9 : Below wo.heap.size wo (wo.alloc (oCl (⟨true, zk, zn⟩ : Cl))) := (Below.refl _ _).alloc (Nat.le_refl _) _
          have HB9 := Go.Lib.hid (Bxo.made wo 52 (clL (⟨true, zk, zn⟩ : Cl)))
          have HC9 := Go.Lib.hid (HM.out.at_.at y9)
          go_upto_region 11 with (refine wpList_load_at rfl 52 _ rfl (ad'.add (j * 7)) rfl (clL (⟨true, zk, zn⟩ : Cl)) _ (hcell' _ (Below.refl _ _)) Try.underlying52 rfl info_cl ?_)
          generalize wo.alloc (.cells (clL (⟨true, zk, zn⟩ : Cl)).toArray 52) = W9 at *
          obtain ⟨g9, hg9⟩ : ∃ g, wo.heap.size = g := ⟨_, rfl⟩
          rw [hg9] at HB9 ⊢
          go_upto_region 12 with (go_at_call 29; refine (rwith10n l' (some ad') c' j cl0 W9 HC9.out N HLN.out hjl hsz.2 rng_cl0).mono ?_; rintro e wb ⟨A1, c1, rfl, hc1, yb⟩; have HC1 := Go.Lib.hid hc1; clear hc1; have HB9 := Go.Lib.hid (HB9.out.keep yb HB9.out.lt); dsimp only)
          have yw := y9.trans (yb.mono y9.size)
          obtain ⟨l1, hl1⟩ : ∃ l1, l'.set j cl0 = l1 := ⟨_, rfl⟩
          have hl1n : l1.length = N := by rw [← hl1, List.length_set]; exact HLN.out
          have hu1 : usedN l1 < N := by
            have u1 := used_set (show j < l'.length by rw [HLN.out]; exact hjl) cl0
            rw [HZ.out, hl1] at u1
            simp at u1
            have u2 : usedN l' ≤ l'.length := List.countP_le_length
            rw [HLN.out] at u2
            omega
          have hf1 := far_lt zk (show usedN l1 < l1.length by rw [hl1n]; exact hu1)
          have HSI1 : Hid (seekI l1 zk = (seekP l1 zk : Nat)) := Go.Lib.hid (by unfold seekI; rw [if_pos hf1])
          have hs1 : seekP l1 zk < N := by unfold seekP; rw [hl1n]; exact Nat.mod_lt _ (by omega)
          have HRP : Hid (reputC l' ((p + m) % N) = l1.set (seekP l1 zk) (⟨true, zk, zn⟩ : Cl)) := Go.Lib.hid (by unfold reputC; rw [HJ.out, HZ.out, hl1])
          rw [hl1] at HC1
          obtain ⟨s1, hs1e⟩ : ∃ s1, seekP l1 zk = s1 := ⟨_, rfl⟩
          rw [hs1e] at HSI1 hs1 HRP
          have HL1 := Go.Lib.hid hl1n
          clear hl1 hl1n hu1 hf1 hs1e d0 hcell'
          clear hg9
          try simp only [Act.put, List.setIfInBounds_toArray, List.set_cons_zero, List.set_cons_succ]
          refine wp_region_held_drew (S := fun Y => Bxo Y g9 52 (clL (⟨true, zk, zn⟩ : Cl)) ∧ Below wb.heap.size wb Y) (by kernel_rfl) ?_ (fun hHeld => ?_)
          · exact ⟨HB9.out.drew, below_drew (Below.refl _ _)⟩
          refine wpAnyH_take (i := 0) (oi := ⟨some 51, _, _, _, _, _⟩) (v := ?_) rfl (by kernel_rfl) (by kernel_rfl) (by kernel_rfl) (fun _ _ _ h => h) (Or.inl ⟨by rfl, ?_⟩) (by assumption) ?_
          rotate_left
          · intro w hSw; (try dsimp only at hSw); go_simp; (try with_reducible rfl)
          try simp only [Act.put, List.setIfInBounds_toArray, List.set_cons_zero, List.set_cons_succ]
          refine wpAnyH_take (i := 1) (oi := ⟨some 52, _, _, _, _, _⟩) (v := ?_) rfl (by kernel_rfl) (by kernel_rfl) (by kernel_rfl) (fun _ _ _ h => h) (Or.inl ⟨by rfl, ?_⟩) (by assumption) ?_
          rotate_left
          · intro w hSw; (try dsimp only at hSw); go_simp; (try with_reducible rfl)
          try simp only [Act.put, List.setIfInBounds_toArray, List.set_cons_zero, List.set_cons_succ]
          refine wpAnyH_take (i := 2) (oi := ⟨some 53, _, _, _, _, _⟩) (v := ?_) rfl (by kernel_rfl) (by kernel_rfl) (by kernel_rfl) (fun _ _ _ h => h) (Or.inl ⟨by rfl, ?_⟩) (by assumption) ?_
          rotate_left
          · intro w hSw; (try dsimp only at hSw); go_simp; (try with_reducible rfl)
          try simp only [Act.put, List.setIfInBounds_toArray, List.set_cons_zero, List.set_cons_succ]
          refine wpAnyH_take (i := 3) (oi := ⟨some 54, _, _, _, _, _⟩) (v := (tpV zk)) rfl (by kernel_rfl) (by kernel_rfl) (by kernel_rfl) (fun _ _ _ h => h) (yieldsIf_load_at (by rfl) 25 _ rfl ((⟨g9, 0, none⟩ : Addr).add 1) rfl (tpL zk) _ (fun Y h => key_cells (fun j v hv => h.1.at j v hv)) Try.underlying25 rfl info_tp) (by assumption) ?_
          try simp only [Act.put, List.setIfInBounds_toArray, List.set_cons_zero, List.set_cons_succ]
          refine wpAnyH_take (i := 5) (oi := ⟨some 56, _, _, _, _, _⟩) (v := (clV (⟨true, zk, zn⟩ : Cl))) rfl (by kernel_rfl) (by kernel_rfl) (by kernel_rfl) (fun _ _ _ h => h) (yieldsIf_load_at (by rfl) 52 _ rfl ⟨g9, 0, none⟩ rfl (clL (⟨true, zk, zn⟩ : Cl)) _ (fun Y h => h.1.at) Try.underlying52 rfl info_cl) (by assumption) ?_
          try simp only [Act.put, List.setIfInBounds_toArray, List.set_cons_zero, List.set_cons_succ]
          refine wpAnyH_ready (rs := [4]) (by kernel_rfl) (by simp) (AllReadyH.cons (o := ⟨some 55, _, _, _, _, _⟩) rfl (fun Kc hKc => ?_) AllReadyH.nil)
          go_simp
          go_at_call 24; refine (rseek10n l1 A1 c1 zk RZ.out _ (HC1.out.at hHeld.2) N HL1.out (by omega) hsz.2 _ HSI1.out).mono ?_; rintro e wc ⟨rfl, yc⟩; dsimp only
          refine hKc.out _ _ (⟨hHeld.1.keep yc hHeld.1.lt, hHeld.2.trans (yc.mono hHeld.2.size)⟩) (fun hHeld => ?_)
          clear hKc Kc
          try simp only [Act.put, List.setIfInBounds_toArray, List.set_cons_zero, List.set_cons_succ]
          refine wpAnyH_ready (rs := [6]) (by kernel_rfl) (by simp) (AllReadyH.cons (o := ⟨some 57, _, _, _, _, _⟩) rfl (fun Kc hKc => ?_) AllReadyH.nil)
          go_simp
          go_at_call 29; refine (rwith10n l1 A1 c1 s1 (⟨true, zk, zn⟩ : Cl) _ (HC1.out.at hHeld.2) N HL1.out hs1 hsz.2 RZ.out).mono ?_; rintro e wd ⟨A2, c2, rfl, hc2, yd⟩; have HC2 := Go.Lib.hid hc2; clear hc2; dsimp only
          refine hKc.out _ _ (⟨hHeld.1.keep yd hHeld.1.lt, hHeld.2.trans (yd.mono hHeld.2.size)⟩) (fun hHeld => ?_)
          clear hKc Kc
          try simp only [Act.put, List.setIfInBounds_toArray, List.set_cons_zero, List.set_cons_succ]
          refine wpAnyH_take (i := 7) (oi := ⟨some 7, _, _, _, _, _⟩) (v := ?_) rfl (by kernel_rfl) (by kernel_rfl) (by kernel_rfl) (fun _ _ _ h => h) (Or.inl ⟨by rfl, ?_⟩) (by assumption) ?_
          rotate_left
          · intro w hSw; (try dsimp only at hSw); go_simp; (try with_reducible rfl)
          try simp only [Act.put, List.setIfInBounds_toArray, List.set_cons_zero, List.set_cons_succ]
          refine wpAnyH_done (by kernel_rfl) ?_ _
          have yq := yw.trans (hHeld.2.mono yw.size)
          clear hHeld
          have e1 : IntKind.i64.wrap ((j : Int) + 1) = (j : Int) + 1 := IntWalk.i64_in _ (by omega)
          have e2 : Int.tmod ((j : Int) + 1) (N : Int) = ((j + 1) % N : Nat) := by rw [Int.tmod_eq_emod_of_nonneg (by omega), Int.natCast_emod, Int.natCast_add]; rfl
          have e2b := Nat.mod_lt (j + 1) (show 0 < N by omega)
          have e3 : IntKind.i64.wrap (Int.tmod ((j : Int) + 1) (N : Int)) = ((j + 1) % N : Nat) := by rw [e2]; exact IntWalk.i64_in _ (by omega)
          have e4 : IntKind.i64.wrap ((((j + 1) % N : Nat)) : Int) = ((j + 1) % N : Nat) := IntWalk.i64_in _ (by omega)
          have HJ2 : Hid ((j + 1) % N = (p + (m + 1)) % N) := Go.Lib.hid (by rw [← HJ.out, add_mod3])
          generalize (j + 1) % N = j9 at *
          have HX := Go.Lib.hid (HM.out.next (by rw [HJ.out, HZ.out]) yq (by rw [HRP.out]; exact HC2.out))
          go_wp2_with fail
          obtain ⟨hx1, hx2⟩ := HX.out
          go_round
          case rel => exact ⟨_, A2, c2, m + 1, f - 1, rfl, by rw [HJ2.out], by omega, hx2⟩
          case measure =>
            have hd2 := dist_of hsl (show m + 1 < N by omega)
            rw [← HJ2.out] at hd2
            simp [intOf]
            omega
end Go.Proofs.Ytgapcfplicgmaaa

/- Contracts of the document's own answers for package index: Same. -/
namespace Go.Proofs.Ytgapcfplicgmaaa
open Go.ChangeShapes Go.WideShapes Go.ChangeAt Go.RowKit
set_option linter.unusedVariables false
set_option linter.unusedSimpArgs false

/-- are two tables the same? -/
def sameTab (a b : List Cl) : Bool := decide (a.length = b.length) && (List.range a.length).all (fun i => sameCl (atC a i) (atC b i))
theorem sameTab_iff (a b : List Cl) : sameTab a b = true ↔ a = b := by
  unfold sameTab
  rw [Bool.and_eq_true, decide_eq_true_eq, List.all_eq_true]
  constructor
  · rintro ⟨hl, h⟩
    refine List.ext_getElem hl fun i h1 h2 => ?_
    have := (sameCl_iff _ _).1 (h i (List.mem_range.2 h1))
    rwa [atC_get h1, atC_get h2] at this
  · rintro rfl
    exact ⟨rfl, fun i _ => (sameCl_iff _ _).2 rfl⟩
set_option maxRecDepth 100000 in
set_option maxHeartbeats 8000000 in
theorem rsame10 (a : List Cl) (A : Option Addr) (c : Nat) (b : List Cl) (B : Option Addr) (d : Nat) (w : World) (ha : CsAt w a A c) (hb : CsAt w b B d) (q : Bool) (hq : sameTab a b = q) :
    Calls Try.prog 10 #[.slice A a.length c, .slice B b.length d] w fun e w' => e = .returned (.bool q) ∧ Below w.heap.size w w' := by
  have HQ := Go.Lib.hid hq
  have HA := Go.Lib.hid ha
  have HB := Go.Lib.hid hb
  have a1 := ha.len
  have a2 := ha.cap
  have b1 := hb.len
  have b2 := hb.cap
  clear hq ha hb
  by_cases hl : a.length = b.length
  · have tl : ((a.length : Int) != (b.length : Int)) = false := by simp [hl]
    have HL := Go.Lib.hid hl
    go_enter Try.func10, Try.ntmps10
    go_wp2_with fail
    go_loopw [5] (fun x wr => ∃ i : Nat, i ≤ a.length ∧ x = .int .i64 i ∧ Hid (∀ t, t < i → sameCl (atC a t) (atC b t) = true) ∧ Below w.heap.size w wr) (fun x _ => a.length - (intOf x).toNat)
    case atStart => exact ⟨0, by omega, rfl, Go.Lib.hid (fun t ht => by omega), Below.refl _ _⟩
    case round =>
      rename World => wo
      obtain ⟨i, hi, rfl, HG, x1⟩ := hrel
      by_cases hlt : i < a.length
      · have hlt2 : i < b.length := by have := HL.out; omega
        obtain ⟨ad, rfl, hcell⟩ := HA.out.cell hlt
        obtain ⟨bd, rfl, hcell2⟩ := HB.out.cell hlt2
        obtain ⟨y, hy⟩ : ∃ y, atC a i = y := ⟨_, rfl⟩
        obtain ⟨z, hz⟩ : ∃ z, atC b i = z := ⟨_, rfl⟩
        rw [hy] at hcell
        rw [hz] at hcell2
        have i1 : (0 : Int) ≤ (i : Int) := by omega
        have i2 : (i : Int) < (a.length : Int) := by omega
        have i3 : (i : Int) < (b.length : Int) := by omega
        have HN : Hid (sameCl y z = true → ∀ t, t < i + 1 → sameCl (atC a t) (atC b t) = true) := Go.Lib.hid (fun hs t ht => by
          by_cases h' : t < i
          · exact HG.out t h'
          · rw [show t = i by omega, hy, hz]; exact hs)
        have HF : Hid (sameCl y z = false → q = false) := Go.Lib.hid (fun hs => by
          rw [← HQ.out]; unfold sameTab
          have : (List.range a.length).all (fun i => sameCl (atC a i) (atC b i)) = false := by
            rw [List.all_eq_false]
            exact ⟨i, List.mem_range.2 hlt, by rw [hy, hz, hs]; simp⟩
          rw [this]; simp)
        clear hy hz hl tl
        have nev := fun W => neCl y z W
        cases he : sameCl y z
        · rw [he] at nev
          go_upto_region 6 with fail
          try simp only [Act.put, List.setIfInBounds_toArray, List.set_cons_zero, List.set_cons_succ]
          refine wp_region_held_drew (S := fun Y => Below wo.heap.size wo Y) (by kernel_rfl) ?_ (fun hHeld => ?_)
          · exact below_drew (Below.refl _ _)
          refine wpAnyH_take (i := 0) (oi := ⟨some 17, _, _, _, _, _⟩) (v := ?_) rfl (by kernel_rfl) (by kernel_rfl) (by kernel_rfl) (fun _ _ _ h => h) (Or.inl ⟨by rfl, ?_⟩) (by assumption) ?_
          rotate_left
          · intro w hSw; (try dsimp only at hSw); go_simp; (try with_reducible rfl)
          try simp only [Act.put, List.setIfInBounds_toArray, List.set_cons_zero, List.set_cons_succ]
          refine wpAnyH_take (i := 1) (oi := ⟨some 18, _, _, _, _, _⟩) (v := ?_) rfl (by kernel_rfl) (by kernel_rfl) (by kernel_rfl) (fun _ _ _ h => h) (Or.inl ⟨by rfl, ?_⟩) (by assumption) ?_
          rotate_left
          · intro w hSw; (try dsimp only at hSw); go_simp; (try with_reducible rfl)
          try simp only [Act.put, List.setIfInBounds_toArray, List.set_cons_zero, List.set_cons_succ]
          refine wpAnyH_take (i := 2) (oi := ⟨some 19, _, _, _, _, _⟩) (v := ?_) rfl (by kernel_rfl) (by kernel_rfl) (by kernel_rfl) (fun _ _ _ h => h) (Or.inl ⟨by rfl, ?_⟩) (by assumption) ?_
          rotate_left
          · intro w hSw; (try dsimp only at hSw); go_simp; (try with_reducible rfl)
          try simp only [Act.put, List.setIfInBounds_toArray, List.set_cons_zero, List.set_cons_succ]
          refine wpAnyH_take (i := 3) (oi := ⟨some 20, _, _, _, _, _⟩) (v := (clV y)) rfl (by kernel_rfl) (by kernel_rfl) (by kernel_rfl) (fun _ _ _ h => h) (yieldsIf_load_at (by rfl) 52 _ rfl (ad.add (i * 7)) rfl (clL y) _ (fun Y h => hcell Y (x1.trans (h.mono x1.size))) Try.underlying52 rfl info_cl) (by assumption) ?_
          try simp only [Act.put, List.setIfInBounds_toArray, List.set_cons_zero, List.set_cons_succ]
          refine wpAnyH_take (i := 4) (oi := ⟨some 21, _, _, _, _, _⟩) (v := ?_) rfl (by kernel_rfl) (by kernel_rfl) (by kernel_rfl) (fun _ _ _ h => h) (Or.inl ⟨by rfl, ?_⟩) (by assumption) ?_
          rotate_left
          · intro w hSw; (try dsimp only at hSw); go_simp; (try with_reducible rfl)
          try simp only [Act.put, List.setIfInBounds_toArray, List.set_cons_zero, List.set_cons_succ]
          refine wpAnyH_take (i := 5) (oi := ⟨some 22, _, _, _, _, _⟩) (v := ?_) rfl (by kernel_rfl) (by kernel_rfl) (by kernel_rfl) (fun _ _ _ h => h) (Or.inl ⟨by rfl, ?_⟩) (by assumption) ?_
          rotate_left
          · intro w hSw; (try dsimp only at hSw); go_simp; (try with_reducible rfl)
          try simp only [Act.put, List.setIfInBounds_toArray, List.set_cons_zero, List.set_cons_succ]
          refine wpAnyH_take (i := 6) (oi := ⟨some 23, _, _, _, _, _⟩) (v := ?_) rfl (by kernel_rfl) (by kernel_rfl) (by kernel_rfl) (fun _ _ _ h => h) (Or.inl ⟨by rfl, ?_⟩) (by assumption) ?_
          rotate_left
          · intro w hSw; (try dsimp only at hSw); go_simp; (try with_reducible rfl)
          try simp only [Act.put, List.setIfInBounds_toArray, List.set_cons_zero, List.set_cons_succ]
          refine wpAnyH_take (i := 7) (oi := ⟨some 24, _, _, _, _, _⟩) (v := (clV z)) rfl (by kernel_rfl) (by kernel_rfl) (by kernel_rfl) (fun _ _ _ h => h) (yieldsIf_load_at (by rfl) 52 _ rfl (bd.add (i * 7)) rfl (clL z) _ (fun Y h => hcell2 Y (x1.trans (h.mono x1.size))) Try.underlying52 rfl info_cl) (by assumption) ?_
          try simp only [Act.put, List.setIfInBounds_toArray, List.set_cons_zero, List.set_cons_succ]
          refine wpAnyH_take (i := 8) (oi := ⟨some 25, _, _, _, _, _⟩) (v := ?_) rfl (by kernel_rfl) (by kernel_rfl) (by kernel_rfl) (fun _ _ _ h => h) (Or.inl ⟨by rfl, ?_⟩) (by assumption) ?_
          rotate_left
          · intro w hSw; (try dsimp only at hSw); go_simp; (try with_reducible rfl)
          try simp only [Act.put, List.setIfInBounds_toArray, List.set_cons_zero, List.set_cons_succ]
          refine wpAnyH_done (by kernel_rfl) ?_ _
          have yq := hHeld
          clear hHeld
          go_wp2
          go_ret
          exact ⟨ret_bool (by rw [HF.out he]), x1.trans (yq.mono x1.size)⟩
        · rw [he] at nev
          go_upto_region 6 with fail
          try simp only [Act.put, List.setIfInBounds_toArray, List.set_cons_zero, List.set_cons_succ]
          refine wp_region_held_drew (S := fun Y => Below wo.heap.size wo Y) (by kernel_rfl) ?_ (fun hHeld => ?_)
          · exact below_drew (Below.refl _ _)
          refine wpAnyH_take (i := 0) (oi := ⟨some 17, _, _, _, _, _⟩) (v := ?_) rfl (by kernel_rfl) (by kernel_rfl) (by kernel_rfl) (fun _ _ _ h => h) (Or.inl ⟨by rfl, ?_⟩) (by assumption) ?_
          rotate_left
          · intro w hSw; (try dsimp only at hSw); go_simp; (try with_reducible rfl)
          try simp only [Act.put, List.setIfInBounds_toArray, List.set_cons_zero, List.set_cons_succ]
          refine wpAnyH_take (i := 1) (oi := ⟨some 18, _, _, _, _, _⟩) (v := ?_) rfl (by kernel_rfl) (by kernel_rfl) (by kernel_rfl) (fun _ _ _ h => h) (Or.inl ⟨by rfl, ?_⟩) (by assumption) ?_
          rotate_left
          · intro w hSw; (try dsimp only at hSw); go_simp; (try with_reducible rfl)
          try simp only [Act.put, List.setIfInBounds_toArray, List.set_cons_zero, List.set_cons_succ]
          refine wpAnyH_take (i := 2) (oi := ⟨some 19, _, _, _, _, _⟩) (v := ?_) rfl (by kernel_rfl) (by kernel_rfl) (by kernel_rfl) (fun _ _ _ h => h) (Or.inl ⟨by rfl, ?_⟩) (by assumption) ?_
          rotate_left
          · intro w hSw; (try dsimp only at hSw); go_simp; (try with_reducible rfl)
          try simp only [Act.put, List.setIfInBounds_toArray, List.set_cons_zero, List.set_cons_succ]
          refine wpAnyH_take (i := 3) (oi := ⟨some 20, _, _, _, _, _⟩) (v := (clV y)) rfl (by kernel_rfl) (by kernel_rfl) (by kernel_rfl) (fun _ _ _ h => h) (yieldsIf_load_at (by rfl) 52 _ rfl (ad.add (i * 7)) rfl (clL y) _ (fun Y h => hcell Y (x1.trans (h.mono x1.size))) Try.underlying52 rfl info_cl) (by assumption) ?_
          try simp only [Act.put, List.setIfInBounds_toArray, List.set_cons_zero, List.set_cons_succ]
          refine wpAnyH_take (i := 4) (oi := ⟨some 21, _, _, _, _, _⟩) (v := ?_) rfl (by kernel_rfl) (by kernel_rfl) (by kernel_rfl) (fun _ _ _ h => h) (Or.inl ⟨by rfl, ?_⟩) (by assumption) ?_
          rotate_left
          · intro w hSw; (try dsimp only at hSw); go_simp; (try with_reducible rfl)
          try simp only [Act.put, List.setIfInBounds_toArray, List.set_cons_zero, List.set_cons_succ]
          refine wpAnyH_take (i := 5) (oi := ⟨some 22, _, _, _, _, _⟩) (v := ?_) rfl (by kernel_rfl) (by kernel_rfl) (by kernel_rfl) (fun _ _ _ h => h) (Or.inl ⟨by rfl, ?_⟩) (by assumption) ?_
          rotate_left
          · intro w hSw; (try dsimp only at hSw); go_simp; (try with_reducible rfl)
          try simp only [Act.put, List.setIfInBounds_toArray, List.set_cons_zero, List.set_cons_succ]
          refine wpAnyH_take (i := 6) (oi := ⟨some 23, _, _, _, _, _⟩) (v := ?_) rfl (by kernel_rfl) (by kernel_rfl) (by kernel_rfl) (fun _ _ _ h => h) (Or.inl ⟨by rfl, ?_⟩) (by assumption) ?_
          rotate_left
          · intro w hSw; (try dsimp only at hSw); go_simp; (try with_reducible rfl)
          try simp only [Act.put, List.setIfInBounds_toArray, List.set_cons_zero, List.set_cons_succ]
          refine wpAnyH_take (i := 7) (oi := ⟨some 24, _, _, _, _, _⟩) (v := (clV z)) rfl (by kernel_rfl) (by kernel_rfl) (by kernel_rfl) (fun _ _ _ h => h) (yieldsIf_load_at (by rfl) 52 _ rfl (bd.add (i * 7)) rfl (clL z) _ (fun Y h => hcell2 Y (x1.trans (h.mono x1.size))) Try.underlying52 rfl info_cl) (by assumption) ?_
          try simp only [Act.put, List.setIfInBounds_toArray, List.set_cons_zero, List.set_cons_succ]
          refine wpAnyH_take (i := 8) (oi := ⟨some 25, _, _, _, _, _⟩) (v := ?_) rfl (by kernel_rfl) (by kernel_rfl) (by kernel_rfl) (fun _ _ _ h => h) (Or.inl ⟨by rfl, ?_⟩) (by assumption) ?_
          rotate_left
          · intro w hSw; (try dsimp only at hSw); go_simp; (try with_reducible rfl)
          try simp only [Act.put, List.setIfInBounds_toArray, List.set_cons_zero, List.set_cons_succ]
          refine wpAnyH_done (by kernel_rfl) ?_ _
          have yq := hHeld
          clear hHeld
          go_wp2
          go_round
          case rel => exact ⟨i + 1, by omega, by go_num, HN.out he, x1.trans (yq.mono x1.size)⟩
          case measure => simp [intOf]; omega
      · obtain rfl : i = a.length := by omega
        have hqt : q = true := by
          rw [← HQ.out]; unfold sameTab
          rw [decide_eq_true HL.out, Bool.true_and, List.all_eq_true]
          exact fun t ht => HG.out t (List.mem_range.1 ht)
        subst hqt
        clear HQ hl tl
        go_wp2
        go_ret
        exact ⟨rfl, x1⟩
  · have tl : ((a.length : Int) != (b.length : Int)) = true := by simp; omega
    have hqf : q = false := by
      rw [← HQ.out]; unfold sameTab
      rw [decide_eq_false hl]; rfl
    subst hqf
    clear HQ hl
    go_enter Try.func10, Try.ntmps10
    go_wp2
    go_ret
    exact ⟨rfl, Below.refl _ _⟩
end Go.Proofs.Ytgapcfplicgmaaa

/- What package index's functions owe, as propositions. -/
namespace Go.Proofs.Ytgapcfplicgmaaa
open Go.ChangeShapes Go.WideShapes Go.ChangeAt Go.RowKit
set_option linter.unusedVariables false
set_option linter.unusedSimpArgs false

theorem TabPost.n {w w' : World} {q : List Cl × Int} {e : Ending} {N : Nat} (h : TabPost w q e w') (hN : q.1.length = N) : ∃ A c, e = .returned (.tuple #[.slice A N c, .int .i64 q.2]) ∧ CsAt w' q.1 A c ∧ Below w.heap.size w w' := by
  subst hN
  exact h
/-- a table is answered: the one that was given, in its place, or one in memory that is new. -/
def TabF (w : World) (A0 : Option Addr) (q : List Cl × Int) (e : Ending) (w' : World) : Prop := ∃ A c, e = .returned (.tuple #[.slice A q.1.length c, .int .i64 q.2]) ∧ CsAt w' q.1 A c ∧ Below w.heap.size w w' ∧ (A = A0 ∨ ∀ ad, A = some ad → w.heap.size ≤ ad.block)
theorem TabF.n {w w' : World} {A0 : Option Addr} {q : List Cl × Int} {e : Ending} {N : Nat} (h : TabF w A0 q e w') (hN : q.1.length = N) : ∃ A c, e = .returned (.tuple #[.slice A N c, .int .i64 q.2]) ∧ CsAt w' q.1 A c ∧ Below w.heap.size w w' := by
  subst hN
  obtain ⟨A, c, h1, h2, h3, _⟩ := h
  exact ⟨A, c, h1, h2, h3⟩
theorem TabF.nf {w w' : World} {A0 : Option Addr} {q : List Cl × Int} {e : Ending} {N : Nat} (h : TabF w A0 q e w') (hN : q.1.length = N) : ∃ A c, e = .returned (.tuple #[.slice A N c, .int .i64 q.2]) ∧ CsAt w' q.1 A c ∧ Below w.heap.size w w' ∧ (A = A0 ∨ ∀ ad, A = some ad → w.heap.size ≤ ad.block) := by
  subst hN
  exact h
def NewC10 : Prop := ∀ (n : Int) (w : World) (q : List Cl × Int), newC n = q → Calls Try.prog 8 #[.int .i64 n] w (TabF w none q)
def RightC10 : Prop := ∀ (l : List Cl) (A : Option Addr) (c N : Nat) (w : World) (b : Bool), l.length = N → CsAt w l A c → N ≤ 1024 → rightCB l = b →
  Calls Try.prog 13 #[.slice A N c] w fun e w' => e = .returned (.bool b) ∧ Below w.heap.size w w'
def LenC10 : Prop := ∀ (l : List Cl) (A : Option Addr) (c N : Nat) (w : World) (n : Nat), l.length = N → CsAt w l A c → N ≤ 1024 → usedN l = n →
  Calls Try.prog 15 #[.slice A N c] w fun e w' => e = .returned (.int .i64 n) ∧ Below w.heap.size w w'
def GetC10 : Prop := ∀ (l : List Cl) (A : Option Addr) (c N : Nat) (k : Tp) (w : World) (q : Int × Bool), l.length = N → CsAt w l A c → N ≤ 1024 → RngTp k → getC l k = q →
  Calls Try.prog 11 #[.slice A N c, tpV k] w fun e w' => e = .returned (.tuple #[.int .i64 q.1, .bool q.2]) ∧ Below w.heap.size w w'
def PutC10 : Prop := ∀ (l : List Cl) (A : Option Addr) (c N : Nat) (k : Tp) (n : Int) (w : World) (q : List Cl × Int), l.length = N → CsAt w l A c → N ≤ 1024 → RngTp k → putC l k n = q →
  Calls Try.prog 17 #[.slice A N c, tpV k, .int .i64 n] w (TabF w A q)
def DelC10 : Prop := ∀ (l : List Cl) (A : Option Addr) (c N : Nat) (k : Tp) (w : World) (q : List Cl × Int), l.length = N → CsAt w l A c → N ≤ 1024 → RngTp k → delC l k = q →
  Calls Try.prog 19 #[.slice A N c, tpV k] w (TabF w A q)
def AwakeC10 : Prop := ∀ w, Calls Try.prog 7 #[] w fun e w' => e = .returned (.bool true) ∧ Below w.heap.size w w'
end Go.Proofs.Ytgapcfplicgmaaa

/- Tables of keys without a list: what a law sees of them; puts and deletes as a list: plain mathematics. -/
namespace Go.Proofs.Ytgapcfplicgmaaa
open Go.RowKit
set_option linter.unusedVariables false

theorem rightCB_of {l : List Cl} (r : RightC l) : rightCB l = true := (rightCB_iff l).2 r
/-- a search in a right table. -/
theorem seek_has {l : List Cl} (r : RightC l) {k : Tp} {n : Int} (h : HasC l k n) : (atC l (seekP l k)).used = true ∧ atC l (seekP l k) = ⟨true, k, n⟩ := by
  obtain ⟨hu, hn⟩ := (r.has k n).1 h
  have hk := (r.seek k).2.1 hu
  refine ⟨hu, ?_⟩
  cases hc : atC l (seekP l k)
  rw [hc] at hu hn hk
  dsimp only at hu hn hk
  rw [hu, hn, hk]
theorem seek_not {l : List Cl} (r : RightC l) {k : Tp} (h : ∀ n, ¬ HasC l k n) : (atC l (seekP l k)).used = false := by
  cases hu : (atC l (seekP l k)).used
  · rfl
  · exact absurd ((r.has k _).2 ⟨hu, rfl⟩) (h _)
theorem get_has {l : List Cl} (r : RightC l) {k : Tp} {n : Int} (h : HasC l k n) : getC l k = (n, true) := by
  unfold getC
  rw [if_pos (rightCB_of r), (seek_has r h).2]
theorem get_not {l : List Cl} (r : RightC l) {k : Tp} (h : ∀ n, ¬ HasC l k n) : getC l k = (0, false) := by
  unfold getC
  have hu := seek_not r h
  rw [if_pos (rightCB_of r), (r.cell _ (r.seek k).1).2 hu]
/-- what is put. -/
structure PutOk (l : List Cl) (k : Tp) (n : Int) (T : List Cl) : Prop where
  old : RightC l
  key : rightT k = true
  free : (atC l (seekP l k)).used = false
  right : RightC T
  len : T.length = l.length
  used : usedN T = usedN l + 1
  room : usedN l + 1 < l.length
  has : ∀ k' n', HasC T k' n' ↔ ((k' = k ∧ n' = n) ∨ HasC l k' n')
  is : T = l.set (seekP l k) ⟨true, k, n⟩
  seek : seekP T k = seekP l k
theorem put_ok {l : List Cl} (r : RightC l) {k : Tp} (n : Int) (hk : rightT k = true) (hu : (atC l (seekP l k)).used = false) (hr : usedN l + 1 < l.length) : putC l k n = (l.set (seekP l k) ⟨true, k, n⟩, 0) ∧ PutOk l k n (l.set (seekP l k) ⟨true, k, n⟩) := by
  obtain ⟨r1, r2, r3⟩ := r.put n hk hu hr
  refine ⟨?_, r, hk, hu, r1, List.length_set, r2, hr, r3, rfl, ?_⟩
  · unfold putC
    rw [rightCB_of r, hk, hu, if_neg (by decide), if_neg (by decide), if_neg (by omega)]
  · have hs := (r.seek k).1
    have hc : atC (l.set (seekP l k) ⟨true, k, n⟩) (seekP l k) = ⟨true, k, n⟩ := by rw [atC_set hs, if_pos rfl]
    have := (r1.good.find (by rw [List.length_set]; exact hs) (by rw [hc])).2
    rw [hc] at this
    exact this
theorem put_cases (l : List Cl) (k : Tp) (n : Int) : (∃ e, putC l k n = (l, e) ∧ (e = 1 ∨ e = 10 ∨ e = 8)) ∨ (∃ T, putC l k n = (T, 0) ∧ PutOk l k n T) := by
  by_cases h1 : (rightCB l && rightT k) = false
  · exact .inl ⟨1, by unfold putC; rw [if_pos h1], .inl rfl⟩
  · have h2 : rightCB l = true ∧ rightT k = true := by
      cases ha : rightCB l <;> cases hb : rightT k <;> simp_all
    have r := (rightCB_iff l).1 h2.1
    cases hu : (atC l (seekP l k)).used
    · by_cases hr : l.length ≤ usedN l + 1
      · exact .inl ⟨8, by unfold putC; rw [if_neg h1, hu, if_neg (by decide), if_pos hr], .inr (.inr rfl)⟩
      · obtain ⟨p1, p2⟩ := put_ok r n h2.2 hu (by omega)
        exact .inr ⟨_, p1, p2⟩
    · exact .inl ⟨10, by unfold putC; rw [if_neg h1, if_pos hu], .inr (.inl rfl)⟩
/-- put and taken out at once. -/
theorem PutOk.back {l T : List Cl} {k : Tp} {n : Int} (h : PutOk l k n T) : delC T k = (l, 0) ∧ getC l k = (0, false) := by
  have hs := (h.old.seek k).1
  have hc : atC T (seekP l k) = ⟨true, k, n⟩ := by rw [h.is, atC_set hs, if_pos rfl]
  constructor
  · unfold delC
    rw [rightCB_of h.right, if_neg (by decide), h.seek, hc, if_neg (by simp)]
    have := h.old.back n h.free
    rw [← h.is] at this
    rw [this]
  · refine get_not h.old fun m hm => ?_
    have := (seek_has h.old hm).1
    rw [h.free] at this
    cases this
theorem PutOk.get {l T : List Cl} {k : Tp} {n : Int} (h : PutOk l k n T) : getC T k = (n, true) := get_has h.right ((h.has _ _).2 (.inl ⟨rfl, rfl⟩))
/-- what is taken out. -/
structure DelOk (l : List Cl) (k : Tp) (T : List Cl) : Prop where
  old : RightC l
  there : ∃ n, HasC l k n
  right : RightC T
  len : T.length = l.length
  used : usedN T + 1 = usedN l
  has : ∀ k' n', HasC T k' n' ↔ (HasC l k' n' ∧ k' ≠ k)
theorem del_ok {l : List Cl} (r : RightC l) {k : Tp} (hu : (atC l (seekP l k)).used = true) : delC l k = (takeC l (seekP l k), 0) ∧ DelOk l k (takeC l (seekP l k)) := by
  obtain ⟨r1, r2, r3, r4⟩ := r.take (r.seek k).1 hu
  have hk := (r.seek k).2.1 hu
  rw [hk] at r4
  refine ⟨?_, r, ⟨_, (r.has k _).2 ⟨hu, rfl⟩⟩, r1, r2, r3, r4⟩
  unfold delC
  rw [rightCB_of r, if_neg (by decide), hu, if_neg (by decide)]
theorem del_cases (l : List Cl) (k : Tp) : (∃ e, delC l k = (l, e) ∧ (e = 1 ∨ e = 9)) ∨ (∃ T, delC l k = (T, 0) ∧ DelOk l k T) := by
  cases h1 : rightCB l
  · exact .inl ⟨1, by unfold delC; rw [if_pos h1], .inl rfl⟩
  · have r := (rightCB_iff l).1 h1
    cases hu : (atC l (seekP l k)).used
    · exact .inl ⟨9, by unfold delC; rw [h1, if_neg (by decide), if_pos hu], .inr rfl⟩
    · obtain ⟨p1, p2⟩ := del_ok r hu
      exact .inr ⟨_, p1, p2⟩
/-- a table has what a list says. -/
structure MapI (t : List Cl) (H : List Cl) : Prop where
  right : RightC t
  used : usedN t = H.length
  has : ∀ k n, HasC t k n ↔ ∃ c ∈ H, c.key = k ∧ c.num = n
  once : H.Pairwise (fun a b => a.key ≠ b.key)
/-- where a key stands in the list; none: -1. -/
def posK (H : List Cl) (k : Tp) : Int := match H.findIdx? (fun c => sameTp c.key k) with
  | some i => i
  | none => -1
theorem pos_none {H : List Cl} {k : Tp} (h : posK H k < 0) : ∀ c ∈ H, c.key ≠ k := by
  unfold posK at h
  split at h
  · omega
  · rename_i hn
    intro c hc e
    have := List.findIdx?_eq_none_iff.1 hn c hc
    rw [(sameTp_iff _ _).2 e] at this
    cases this
theorem pos_some {H : List Cl} {k : Tp} (h : 0 ≤ posK H k) : ∃ i, ∃ hi : i < H.length, posK H k = i ∧ H[i].key = k ∧ ∀ j (hj : j < i), (H[j]'(Nat.lt_trans hj hi)).key ≠ k := by
  unfold posK at h ⊢
  split at h
  · rename_i i hi
    try rw [hi]
    obtain ⟨h1, h2, h3⟩ := List.findIdx?_eq_some_iff_getElem.1 hi
    refine ⟨i, h1, rfl, (sameTp_iff _ _).1 h2, fun j hj e => ?_⟩
    have := h3 j hj
    rw [(sameTp_iff _ _).2 e] at this
    simp at this
  · omega
theorem MapI.there {t H : List Cl} (m : MapI t H) {k : Tp} : 0 ≤ posK H k ↔ ∃ n, HasC t k n := by
  constructor
  · intro h
    obtain ⟨i, hi, _, hk, _⟩ := pos_some h
    exact ⟨_, (m.has k _).2 ⟨H[i], List.getElem_mem hi, hk, rfl⟩⟩
  · rintro ⟨n, hn⟩
    obtain ⟨c, hc, hk, _⟩ := (m.has k n).1 hn
    rcases Int.lt_or_le (posK H k) 0 with h | h
    · exact absurd hk (pos_none h c hc)
    · exact h
theorem MapI.new {n : Nat} (h : sizeC n = true) : MapI (List.replicate n cl0) [] := by
  obtain ⟨h1, h2, h3⟩ := right_new h
  exact ⟨h1, h2, fun k n => ⟨fun x => absurd x (h3 k n), fun ⟨c, hc, _⟩ => absurd hc (List.not_mem_nil)⟩, List.Pairwise.nil⟩
/-- a key is put. -/
theorem MapI.put {t H T : List Cl} (m : MapI t H) {c : Cl} (h : PutOk t c.key c.num T) : posK H c.key < 0 ∧ MapI T (H ++ [c]) := by
  have hn : posK H c.key < 0 := by
    rcases Int.lt_or_le (posK H c.key) 0 with h' | h'
    · exact h'
    · obtain ⟨n, hn⟩ := m.there.1 h'
      have := (seek_has m.right hn).1
      rw [h.free] at this
      cases this
  refine ⟨hn, h.right, by rw [h.used, m.used]; simp, fun k n => (h.has k n).trans ?_, ?_⟩
  · rw [m.has]
    constructor
    · rintro (⟨rfl, rfl⟩ | ⟨d, hd, h1, h2⟩)
      · exact ⟨c, by simp, rfl, rfl⟩
      · exact ⟨d, by simp [hd], h1, h2⟩
    · rintro ⟨d, hd, h1, h2⟩
      rcases List.mem_append.1 hd with hd | hd
      · exact .inr ⟨d, hd, h1, h2⟩
      · obtain rfl := List.mem_singleton.1 hd
        exact .inl ⟨h1.symm, h2.symm⟩
  · refine List.pairwise_append.2 ⟨m.once, List.pairwise_singleton _ _, fun a ha b hb => ?_⟩
    obtain rfl := List.mem_singleton.1 hb
    exact pos_none hn a ha
/-- an error of Put. -/
theorem MapI.put_no {t H : List Cl} (m : MapI t H) {c : Cl} {e : Int} (h : putC t c.key c.num = (t, e)) (he : e = 1 ∨ e = 10 ∨ e = 8) : e = 10 ↔ 0 ≤ posK H c.key := by
  unfold putC at h
  rw [rightCB_of m.right] at h
  rw [m.there]
  by_cases hk : rightT c.key = true
  · rw [hk, if_neg (by decide)] at h
    cases hu : (atC t (seekP t c.key)).used
    · rw [hu, if_neg (by decide)] at h
      have hn : ¬ ∃ n, HasC t c.key n := fun ⟨n, hn⟩ => by
        have := (seek_has m.right hn).1
        rw [hu] at this; cases this
      have : e ≠ 10 := by
        split at h
        · injection h with _ h; omega
        · injection h with _ h; omega
      exact ⟨fun q => absurd q this, fun q => absurd q hn⟩
    · rw [if_pos hu] at h
      injection h with _ h
      exact ⟨fun _ => ⟨_, (m.right.has _ _).2 ⟨hu, rfl⟩⟩, fun _ => h.symm⟩
  · have hk' : rightT c.key = false := by simpa using hk
    rw [hk', if_pos (by decide)] at h
    injection h with _ h
    refine ⟨fun q => by omega, fun ⟨n, hn⟩ => ?_⟩
    obtain ⟨q, hq, hc⟩ := hn
    have := ((m.right.cell q hq).1 (by rw [hc])).2.2
    rw [hc] at this
    exact absurd this hk
/-- a key is taken out. -/
theorem MapI.del {t H T : List Cl} (m : MapI t H) {k : Tp} (h : DelOk t k T) : ∃ i, i < H.length ∧ posK H k = i ∧ MapI T (H.take i ++ H.drop (i + 1)) := by
  obtain ⟨i, hi, hp, hk, _⟩ := pos_some (m.there.2 h.there)
  have hsplit : H = H.take i ++ H[i] :: H.drop (i + 1) := by
    rw [← List.drop_eq_getElem_cons hi, List.take_append_drop]
  have ho := m.once
  rw [hsplit] at ho
  have ho' := List.pairwise_append.1 ho
  have ho2 := List.pairwise_cons.1 ho'.2.1
  refine ⟨i, hi, hp, h.right, ?_, fun k' n => (h.has k' n).trans ?_, ?_⟩
  · have := h.used
    rw [m.used] at this
    simp
    omega
  · rw [m.has]
    constructor
    · rintro ⟨⟨c, hc, h1, h2⟩, hne⟩
      rw [hsplit] at hc
      rcases List.mem_append.1 hc with hc | hc
      · exact ⟨c, List.mem_append.2 (.inl hc), h1, h2⟩
      · rcases List.mem_cons.1 hc with rfl | hc
        · exact absurd (h1.symm.trans hk) hne
        · exact ⟨c, List.mem_append.2 (.inr hc), h1, h2⟩
    · rintro ⟨c, hc, h1, h2⟩
      rcases List.mem_append.1 hc with hc | hc
      · refine ⟨⟨c, by rw [hsplit]; exact List.mem_append.2 (.inl hc), h1, h2⟩, fun e => ?_⟩
        exact ho'.2.2 c hc H[i] (List.mem_cons.2 (.inl rfl)) (by rw [h1, e, hk])
      · refine ⟨⟨c, by rw [hsplit]; exact List.mem_append.2 (.inr (List.mem_cons.2 (.inr hc))), h1, h2⟩, fun e => ?_⟩
        exact ho2.1 c hc (by rw [hk, h1, e])
  · exact List.pairwise_append.2 ⟨ho'.1, ho2.2, fun a ha b hb => ho'.2.2 a ha b (List.mem_cons.2 (.inr hb))⟩
theorem MapI.del_no {t H : List Cl} (m : MapI t H) {k : Tp} {e : Int} (h : delC t k = (t, e)) (he : e = 1 ∨ e = 9) : posK H k < 0 := by
  rcases Int.lt_or_le (posK H k) 0 with h' | h'
  · exact h'
  · obtain ⟨n, hn⟩ := m.there.1 h'
    obtain ⟨p1, _⟩ := del_ok m.right (seek_has m.right hn).1
    rw [p1] at h
    injection h with _ h
    omega
theorem MapI.get {t H : List Cl} (m : MapI t H) {i : Nat} (hi : i < H.length) : getC t H[i].key = (H[i].num, true) := get_has m.right ((m.has _ _).2 ⟨H[i], List.getElem_mem hi, rfl, rfl⟩)
end Go.Proofs.Ytgapcfplicgmaaa

/- Statements of layer 10: what is not asleep. -/
namespace Go.Proofs.Ytgapcfplicgmaaa
open Go.ChangeShapes Go.WideShapes Go.ChangeAt Go.RowKit
set_option linter.unusedVariables false
set_option linter.unusedSimpArgs false

theorem awake_facts : ∃ t0 T : List Cl, newC 4 = (t0, 0) ∧ t0.length = 4 ∧ T.length = 4 ∧ putC t0 ⟨0, 1, 0, 0, 0⟩ 7 = (T, 0) ∧ getC T ⟨0, 1, 0, 0, 0⟩ = (7, true) ∧ delC T ⟨0, 1, 0, 0, 0⟩ = (t0, 0) ∧ usedN T = 1 ∧ usedN t0 = 0 := by
  obtain ⟨h1, h2, h3⟩ := right_new (n := 4) (by decide)
  have hl : (List.replicate 4 cl0).length = 4 := rfl
  obtain ⟨p1, p2⟩ := put_ok h1 (k := ⟨0, 1, 0, 0, 0⟩) 7 (by decide) (seek_not h1 (h3 _)) (by rw [h2, hl]; decide)
  exact ⟨_, _, rfl, hl, p2.len, p1, p2.get, p2.back.1, by rw [p2.used, h2], h2⟩
set_option maxRecDepth 100000 in
set_option maxHeartbeats 8000000 in
theorem cawake10 (kN0 : NewC10) (kP0 : PutC10) (kG0 : GetC10) (kD0 : DelC10) (kL0 : LenC10) : AwakeC10 := by
  intro w
  have kN := Go.Lib.hid kN0
  have kP := Go.Lib.hid kP0
  have kG := Go.Lib.hid kG0
  have kD := Go.Lib.hid kD0
  have kL := Go.Lib.hid kL0
  obtain ⟨t0, T, a1, a2, a3, a4, a5, a6, a7, a8⟩ := awake_facts
  have hn0 := Go.Lib.hid a1
  have l0 := Go.Lib.hid a2
  have lT := Go.Lib.hid a3
  have hp0 := Go.Lib.hid a4
  have hg0 := Go.Lib.hid a5
  have hd0 := Go.Lib.hid a6
  have uT := Go.Lib.hid a7
  have u0 := Go.Lib.hid a8
  have rk : RngTp ⟨0, 1, 0, 0, 0⟩ := ⟨by decide, by decide, by decide, by decide⟩
  have x0 : Below w.heap.size w w := Below.refl _ _
  clear a1 a2 a3 a4 a5 a6 a7 a8 kN0 kP0 kG0 kD0 kL0
  go_enter Try.func7, Try.ntmps7
  go_wp2_with (first
    | (go_at_call 8; refine (kN.out 4 w (t0, 0) hn0.out).mono ?_; intro e w1 hp; obtain ⟨A1, c1, rfl, hc1, y1⟩ := hp.n l0.out; have H1 := Go.Lib.hid hc1; clear hc1 hp; skip; have x1 := x0.trans (y1.mono x0.size); dsimp only)
    | (go_at_call 17; refine (kP.out t0 A1 c1 4 ⟨0, 1, 0, 0, 0⟩ 7 w1 (T, 0) l0.out H1.out (by omega) rk hp0.out).mono ?_; intro e w2 hp; obtain ⟨A2, c2, rfl, hc2, y2⟩ := hp.n lT.out; have H2 := Go.Lib.hid hc2; clear hc2 hp; skip; have x2 := x1.trans (y2.mono x1.size); dsimp only)
    | (go_at_call 11; refine (kG.out T A2 c2 4 ⟨0, 1, 0, 0, 0⟩ w2 (7, true) lT.out H2.out (by omega) rk hg0.out).mono ?_; rintro e w3 ⟨rfl, y3⟩; have H2 := Go.Lib.hid (H2.out.at y3); have x3 := x2.trans (y3.mono x2.size); dsimp only)
    | (go_at_call 19; refine (kD.out T A2 c2 4 ⟨0, 1, 0, 0, 0⟩ w3 (t0, 0) lT.out H2.out (by omega) rk hd0.out).mono ?_; intro e w4 hp; obtain ⟨A4, c4, rfl, hc4, y4⟩ := hp.n l0.out; have H4 := Go.Lib.hid hc4; clear hc4 hp; have H2 := Go.Lib.hid (H2.out.at y4); have x4 := x3.trans (y4.mono x3.size); dsimp only)
    | (go_at_call_of 15 (Value.slice A2 4 c2); refine (kL.out T A2 c2 4 w4 1 lT.out H2.out (by omega) uT.out).mono ?_; rintro e w5 ⟨rfl, y5⟩; have H4 := Go.Lib.hid (H4.out.at y5); have x5 := x4.trans (y5.mono x4.size); dsimp only)
    | (go_at_call_of 15 (Value.slice A4 4 c4); refine (kL.out t0 A4 c4 4 w5 0 l0.out H4.out (by omega) u0.out).mono ?_; rintro e w6 ⟨rfl, y6⟩; skip; have x6 := x5.trans (y6.mono x5.size); dsimp only))
  go_ret
  exact ⟨rfl, x6⟩
end Go.Proofs.Ytgapcfplicgmaaa

/- Statements of layer 10, walked: put and taken out at once. -/
namespace Go.Proofs.Ytgapcfplicgmaaa
open Go.ChangeShapes Go.WideShapes Go.ChangeAt Go.RowKit
set_option linter.unusedVariables false
set_option linter.unusedSimpArgs false

theorem rsame10n (a : List Cl) (A : Option Addr) (c : Nat) (b : List Cl) (B : Option Addr) (d : Nat) (w : World) (ha : CsAt w a A c) (hb : CsAt w b B d) (N M : Nat) (hN : a.length = N) (hM : b.length = M) (q : Bool) (hq : sameTab a b = q) :
    Calls Try.prog 10 #[.slice A N c, .slice B M d] w fun e w' => e = .returned (.bool q) ∧ Below w.heap.size w w' := by
  subst hN hM
  exact rsame10 a A c b B d w ha hb q hq
set_option maxRecDepth 100000 in
set_option maxHeartbeats 8000000 in
theorem indexBack (kA0 : AwakeC10) (kP0 : PutC10) (kG0 : GetC10) (kD0 : DelC10) (l : List Cl) (A : Option Addr) (c : Nat) (k : Tp) (n : Int) (w : World) (h : CsAt w l A c) (rk0 : RngTp k) :
    Calls Try.prog 5 #[.slice A l.length c, tpV k, .int .i64 n] w fun e w' => e = .returned (.bool true) ∧ Below w.heap.size w w' := by
  have kA := Go.Lib.hid kA0
  have kP := Go.Lib.hid kP0
  have kG := Go.Lib.hid kG0
  have kD := Go.Lib.hid kD0
  have rk := Go.Lib.hid rk0
  obtain ⟨N, hN0⟩ : ∃ N, l.length = N := ⟨_, rfl⟩
  rw [hN0]
  have hN := Go.Lib.hid hN0
  have sl : Hid (sameTab l l = true) := Go.Lib.hid ((sameTab_iff l l).2 rfl)
  have x0 : Below w.heap.size w (w.alloc (oTp k)) := below_alloc (Below.refl _ _) (Nat.le_refl _) _
  have h1 := Bxo.made w 25 (tpL k)
  have h2 := h.at x0
  clear kA0 kP0 kG0 kD0 rk0 hN0 h
  go_enter Try.func5, Try.ntmps5
  go_upto_region 1 with fail
  generalize w.alloc (oTp k) = W at *
  have BT := Go.Lib.hid h1
  have HL := Go.Lib.hid h2
  clear h1 h2
  by_cases hb : 64 < N
  · have hb' : (64 : Int) < (N : Int) := by omega
    go_wp2_with (go_at_call 7; refine (kA.out _).mono ?_; rintro e w1 ⟨rfl, y1⟩; have BT := Go.Lib.hid (BT.out.keep y1 BT.out.lt); have HL := Go.Lib.hid (HL.out.at y1); have x1 := x0.trans (y1.mono x0.size); dsimp only)
    go_ret
    exact ⟨rfl, x1⟩
  have hb' : ¬ (64 : Int) < (N : Int) := by omega
  rcases put_cases l k n with ⟨f, p1, p2⟩ | ⟨T, p1, p2⟩
  · have hp := Go.Lib.hid p1
    have tf : (f != 0) = true := by rcases p2 with rfl | rfl | rfl <;> rfl
    clear p1 p2
    go_wp2_with (first
      | (refine wpList_load_box rfl 25 _ rfl w.heap.size rfl (tpL k) _ BT.out Try.underlying25 rfl info_tp ?_)
      | (go_at_call 7; refine (kA.out _).mono ?_; rintro e w1 ⟨rfl, y1⟩; have BT := Go.Lib.hid (BT.out.keep y1 BT.out.lt); have HL := Go.Lib.hid (HL.out.at y1); have x1 := x0.trans (y1.mono x0.size); dsimp only)
      | (go_at_call 17; refine (kP.out l A c N k n w1 (l, f) hN.out HL.out (by omega) rk.out hp.out).mono ?_; intro e w2 hp; obtain ⟨A2, c2, rfl, hc2, y2⟩ := hp.n hN.out; have H2 := Go.Lib.hid hc2; clear hc2 hp; have BT := Go.Lib.hid (BT.out.keep y2 BT.out.lt); have HL := Go.Lib.hid (HL.out.at y2); have x2 := x1.trans (y2.mono x1.size); dsimp only)
      | (go_at_call 10; refine (rsame10n l A2 c2 l A c w2 H2.out HL.out N N hN.out hN.out true sl.out).mono ?_; rintro e w3 ⟨rfl, y3⟩; skip; have x3 := x2.trans (y3.mono x2.size); dsimp only))
    go_ret
    exact ⟨rfl, x3⟩
  · have hp := Go.Lib.hid p1
    have lT : Hid (T.length = N) := Go.Lib.hid (p2.len.trans hN.out)
    have hd := Go.Lib.hid p2.back.1
    have hg := Go.Lib.hid p2.back.2
    clear p1 p2
    go_wp2_with (first
      | (refine wpList_load_box rfl 25 _ rfl w.heap.size rfl (tpL k) _ BT.out Try.underlying25 rfl info_tp ?_)
      | (go_at_call 7; refine (kA.out _).mono ?_; rintro e w1 ⟨rfl, y1⟩; have BT := Go.Lib.hid (BT.out.keep y1 BT.out.lt); have HL := Go.Lib.hid (HL.out.at y1); have x1 := x0.trans (y1.mono x0.size); dsimp only)
      | (go_at_call 17; refine (kP.out l A c N k n w1 (T, 0) hN.out HL.out (by omega) rk.out hp.out).mono ?_; intro e w2 hp; obtain ⟨A2, c2, rfl, hc2, y2⟩ := hp.n lT.out; have H2 := Go.Lib.hid hc2; clear hc2 hp; have BT := Go.Lib.hid (BT.out.keep y2 BT.out.lt); have HL := Go.Lib.hid (HL.out.at y2); have x2 := x1.trans (y2.mono x1.size); dsimp only)
      | (go_at_call 19; refine (kD.out T A2 c2 N k w2 (l, 0) lT.out H2.out (by omega) rk.out hd.out).mono ?_; intro e w3 hp; obtain ⟨A3, c3, rfl, hc3, y3⟩ := hp.n hN.out; have H3 := Go.Lib.hid hc3; clear hc3 hp; have BT := Go.Lib.hid (BT.out.keep y3 BT.out.lt); have HL := Go.Lib.hid (HL.out.at y3); have x3 := x2.trans (y3.mono x2.size); dsimp only)
      | (go_at_call 11; refine (kG.out l A3 c3 N k w3 (0, false) hN.out H3.out (by omega) rk.out hg.out).mono ?_; rintro e w4 ⟨rfl, y4⟩; have HL := Go.Lib.hid (HL.out.at y4); have H3 := Go.Lib.hid (H3.out.at y4); have x4 := x3.trans (y4.mono x3.size); dsimp only)
      | (go_at_call 10; refine (rsame10n l A3 c3 l A c w4 H3.out HL.out N N hN.out hN.out true sl.out).mono ?_; rintro e w5 ⟨rfl, y5⟩; skip; have x5 := x4.trans (y5.mono x4.size); dsimp only))
    go_ret
    exact ⟨rfl, x5⟩
end Go.Proofs.Ytgapcfplicgmaaa
