/- Lemmas, several texts in one. -/
import Derived.Test.YtofpalmghdapkaaQ05
/- Contracts of package index: mayBe, after, Len, New; slices.Clone of a table: a row of the call's own. -/
namespace Go.Proofs.Ytofpalmghdapkaa
open Go.ChangeShapes Go.WideShapes Go.ChangeAt Go.RowKit
set_option linter.unusedVariables false
set_option linter.unusedSimpArgs false

theorem and_size : ∀ x : Fin 1025, 2 ≤ x.val → (bits .and .i64 (x.val : Int) ((x.val : Int) - 1) == 0) = sizeC x.val := by decide +kernel
theorem sizeI_big {n : Int} (h : 1024 < n) : sizeI n = false := by
  unfold sizeI
  simp
  omega
theorem sizeI_low {n : Int} (h : n < 2) : sizeI n = false := by
  unfold sizeI
  simp
  omega
set_option maxHeartbeats 400000 in
theorem cmayBe (n : Int) (w : World) (b : Bool) (hb : sizeI n = b) :
    Calls Try.prog 44 #[.int .i64 n] w fun e w' => e = .returned (.bool b) ∧ w = w' := by
  by_cases h0 : 2 ≤ n
  · by_cases h1 : n ≤ 1024
    · obtain ⟨k, rfl⟩ : ∃ k : Nat, n = (k : Int) := ⟨n.toNat, by omega⟩
      have HA : (bits .and .i64 (k : Int) ((k : Int) - 1) == 0) = b := by
        rw [← hb, sizeI_nat]
        exact and_size ⟨k, by omega⟩ (by show 2 ≤ k; omega)
      have s1 : IntKind.i64.wrap ((k : Int) - 1) = (k : Int) - 1 := IntWalk.i64_in _ (by omega)
      clear hb
      go_enter Try.func44, Try.ntmps44
      go_wp2
      go_ret
      exact ⟨ret_bool rfl, rfl⟩
    · rw [sizeI_big (by omega)] at hb
      subst hb
      go_enter Try.func44, Try.ntmps44
      go_wp2
      go_ret
      exact ⟨rfl, rfl⟩
  · rw [sizeI_low (by omega)] at hb
    subst hb
    go_enter Try.func44, Try.ntmps44
    go_wp2
    go_ret
    exact ⟨rfl, rfl⟩
set_option maxHeartbeats 400000 in
theorem cafter (A : Option Addr) (c N p : Nat) (w : World) (h0 : 0 < N) (hb : N ≤ 1024) (hp : p < N) (q : Nat) (hq : (p + 1) % N = q) :
    Calls Try.prog 57 #[.slice A N c, .int .i64 p] w fun e w' => e = .returned (.int .i64 q) ∧ w = w' := by
  have e1 : IntKind.i64.wrap ((p : Int) + 1) = (p : Int) + 1 := IntWalk.i64_in _ (by omega)
  have e2 : Int.tmod ((p : Int) + 1) (N : Int) = (q : Nat) := by rw [Int.tmod_eq_emod_of_nonneg (by omega), ← hq, Int.natCast_emod, Int.natCast_add]; rfl
  have hl : q < N := by rw [← hq]; exact Nat.mod_lt _ h0
  have e3 : IntKind.i64.wrap (Int.tmod ((p : Int) + 1) (N : Int)) = (q : Nat) := by rw [e2]; exact IntWalk.i64_in _ (by omega)
  have e4 : IntKind.i64.wrap ((q : Nat) : Int) = (q : Nat) := IntWalk.i64_in _ (by omega)
  have hl0 : ¬ N = 0 := by omega
  clear hq
  go_enter Try.func57, Try.ntmps57
  go_wp2
  go_ret
  exact ⟨rfl, rfl⟩
set_option maxRecDepth 100000 in
set_option maxHeartbeats 4000000 in
theorem clen : LenC10 := by
  intro l A c N w n hN h hbig hn
  have HC := Go.Lib.hid h
  have hl := h.len
  have hc := h.cap
  have HN := Go.Lib.hid hn
  have HL := Go.Lib.hid hN
  rw [hN] at hl
  clear h hn hN
  go_enter Try.func54, Try.ntmps54
  go_wp2_with fail
  go_loopw [3, 8] (fun x i wr => ∃ k : Nat, k ≤ N ∧ i = .int .i64 k ∧ x = .int .i64 (usedN (l.take k) : Nat) ∧ Below w.heap.size w wr) (fun x i _ => N - (intOf i).toNat)
  case atStart => exact ⟨0, by omega, rfl, by simp [usedN], Below.refl _ _⟩
  case round =>
    rename World => wo
    obtain ⟨k, hk, rfl, rfl, ya⟩ := hrel
    by_cases hlt : k < N
    · have hlt' : k < l.length := by have := HL.out; omega
      obtain ⟨ad, rfl, hcell⟩ := HC.out.cell hlt'
      have HS := Go.Lib.hid (used_take l k hlt')
      have hu0 : usedN (l.take k) ≤ k := by unfold usedN; have := List.countP_le_length (p := Cl.used) (l := l.take k); rw [List.length_take] at this; omega
      have hcw := hcell wo ya
      have i1 : (0 : Int) ≤ (k : Int) := by omega
      have i2 : (k : Int) < (N : Int) := by omega
      generalize usedN (l.take k) = u at *
      generalize atC l k = y at *
      have HW := Go.Lib.hid hcw
      have yb : Below w.heap.size w (wo.alloc (oCl y)) := below_alloc ya ya.size _
      have hbx := Bxo.made wo 100 (clL y)
      clear hcell hcw hlt'
      go_upto_region 5 with (first
        | (refine wpList_load_at rfl 100 _ rfl (ad.add (k * 7)) rfl (clL y) _ HW.out Try.underlying100 rfl info_cl ?_))
      generalize wo.alloc (oCl y) = wx at *
      have d0 := hbx.cell 0 rfl
      clear hbx HW
      cases hy : y.used
      · rw [hy] at d0 HS
        clear hy
        go_wp2
        go_round
        case rel => exact ⟨k + 1, by omega, by go_num, by rw [HS.out]; rfl, yb⟩
        case measure => simp [intOf]; omega
      · rw [hy] at d0 HS
        clear hy
        go_wp2
        go_round
        case rel => exact ⟨k + 1, by omega, by go_num, by rw [HS.out]; go_num, yb⟩
        case measure => simp [intOf]; omega
    · obtain rfl : k = N := by omega
      have HT : Hid (usedN (l.take k) = n) := Go.Lib.hid (by rw [← HN.out, ← HL.out, List.take_length])
      generalize usedN (l.take k) = u at *
      go_wp2
      go_ret
      exact ⟨by rw [HT.out]; rfl, ya⟩
theorem newC_no {n : Int} (hs : sizeI n = false) : newC n = ([], 1) := by
  unfold newC
  rw [if_neg]
  rintro ⟨h0, h1⟩
  obtain ⟨k, rfl⟩ : ∃ k : Nat, n = (k : Int) := ⟨n.toNat, by omega⟩
  rw [sizeI_nat] at hs
  rw [show ((k : Int)).toNat = k from rfl, hs] at h1
  cases h1
set_option maxRecDepth 100000 in
set_option maxHeartbeats 4000000 in
theorem cnew : NewC10 := by
  intro n w q hq
  cases hs : sizeI n
  · have hq2 : q = ([], 1) := by rw [← hq]; exact newC_no hs
    subst hq2
    have HS := Go.Lib.hid hs
    clear hq hs
    go_enter Try.func26, Try.ntmps26
    go_wp2_with (go_at_call 44; refine (cmayBe n _ false HS.out).mono ?_; rintro e w1 ⟨rfl, rfl⟩; dsimp only)
    refine bodyPost_ret (v := .tuple #[.slice none 0 0, .int .i64 1]) ?_ rfl ⟨none, 0, rfl, ⟨Nat.le_refl _, by omega, fun _ => rfl, fun i => rng_cl0, .inl rfl⟩, Below.refl _ _, .inl rfl⟩
    simp [results, Try.results26, go_sem]
  · obtain ⟨k, rfl⟩ : ∃ k : Nat, n = (k : Int) := ⟨n.toNat, by
      rcases Int.lt_or_le n 0 with h | h
      · rw [sizeI_neg h] at hs; cases hs
      · omega⟩
    have hk : sizeC k = true := by rw [← sizeI_nat]; exact hs
    have hp := sizeC_pos hk
    have hq2 : q = (List.replicate k cl0, 0) := by
      rw [← hq]; unfold newC
      rw [if_pos ⟨by omega, hk⟩]; rfl
    subst hq2
    have HS := Go.Lib.hid hs
    clear hq hs
    obtain ⟨i0, hi, hz0, hz1, hz2⟩ := info_parts info_clz
    go_enter Try.func26, Try.ntmps26
    go_wp2_with (first
      | (go_at_call 44; refine (cmayBe (k : Int) _ true HS.out).mono ?_; rintro e w1 ⟨rfl, rfl⟩; dsimp only)
      | (at_make; refine wpList_make_full _ rfl _ _ 68 rfl w.heap.size 100 i0 _ 7 Try.underlying68 hi hz0 hz1 _ _ _ _ k rfl rfl rfl rfl (by rw [hz2]; omega) (by unfold maxLen; omega) (Nat.le_refl _) ?_; intro w1 ho1 hg1; have HO1 := Go.Lib.hid ho1; have HG1 := Go.Lib.hid hg1; clear ho1 hg1))
    have y1 : Below w.heap.size w w1 := (Below.refl _ _).grown HG1.out (Nat.le_refl _) (fun k hk => by cases hk)
    have hm : (madeCells (Value.agg #[.bool false, .int .i64 0, .int .u32 0, .int .i64 0, .int .u32 0, .int .i64 0, .int .i64 0]).cells (k * 7)).toList = (List.replicate k cl0).flatMap Cl.L := flat_made Cl.L 7 Cl.len (by omega) cl0 k
    have hrd := own_rd HO1.out
    rw [hm] at hrd
    refine bodyPost_ret (v := .tuple #[.slice (some ⟨w.heap.size, 0, none⟩) k k, .int .i64 0]) ?_ rfl ⟨some ⟨w.heap.size, 0, none⟩, k, by rw [List.length_replicate], ⟨by rw [List.length_replicate]; exact Nat.le_refl _, by omega, fun h => (by cases h), fun i => by rw [show atC (List.replicate k cl0) i = cl0 by unfold atC; rw [List.getD_eq_getElem?_getD, List.getElem?_replicate]; split <;> rfl]; exact rng_cl0, hrd⟩, y1, .inr (fun ad e => by cases e; exact Nat.le_refl _)⟩
    simp [results, Try.results26, go_sem]
/-- a table in a row of the call's own. -/
structure OwnT (w : World) (base : Nat) (l : List Cl) (A : Option Addr) (N c : Nat) : Prop where
  own : w.ownsRow base 100 7 (.slice A N c) N (l.flatMap Cl.L)
  len : l.length = N
  rng : ∀ i, RngTp (atC l i).key
theorem OwnT.at {w : World} {base : Nat} {l : List Cl} {A : Option Addr} {N c : Nat} (h : OwnT w base l A N c) : CsAt w l A c := by
  have hc := own_cap h.own
  unfold maxLen at hc
  refine ⟨by rw [h.len]; exact hc.1, hc.2, fun e => ?_, h.rng, own_rd h.own⟩
  rcases own_addr h.own with ⟨_, _, h0⟩ | ⟨g, e', _⟩
  · exact h0
  · rw [e] at e'; cases e'
theorem OwnT.fresh {w : World} {base : Nat} {l : List Cl} {A : Option Addr} {N c : Nat} (h : OwnT w base l A N c) : ∀ ad, A = some ad → base ≤ ad.block := fun ad e => by
  rcases own_addr h.own with ⟨e', _⟩ | ⟨g, e', hb, _⟩
  · rw [e] at e'; cases e'
  · rw [e] at e'; cases e'; exact hb
theorem OwnT.keep {w w' : World} {base : Nat} {l : List Cl} {A : Option Addr} {N c : Nat} (h : OwnT w base l A N c) (hb : Below w.heap.size w w') : OwnT w' base l A N c := by
  refine ⟨own_keepA h.own fun g hg => ?_, h.len, h.rng⟩
  rcases own_addr h.own with ⟨e, _⟩ | ⟨g', e, _, hl⟩
  · rw [e] at hg; cases hg
  · rw [e] at hg; cases hg; exact hb.block _ hl
/-- the row, opened. -/
theorem OwnT.box {w : World} {base : Nat} {l : List Cl} {A : Option Addr} {N c : Nat} (h : OwnT w base l A N c) (h0 : 0 < N) : ∃ g cur, A = some ⟨g, 0, none⟩ ∧ Bxo w g 100 cur ∧ cur.length = c * 7 ∧ base ≤ g ∧ N ≤ c := by
  rcases own_addr h.own with ⟨_, hz, _⟩ | ⟨g, rfl, hb, _⟩
  · omega
  · obtain ⟨cur, k1, k2, k3, k4, k5, k6, k7⟩ := own_open h.own
    exact ⟨g, cur, rfl, k1, k2, k4, k5⟩
theorem OwnT.set {w w' : World} {base : Nat} {l : List Cl} {g N c p : Nat} {cur : List Value} {x : Cl} (h : OwnT w base l (some ⟨g, 0, none⟩) N c) (hb : Bxo w g 100 cur) (hp : p < N) (rx : RngTp x.key) (h2 : Bxo w' g 100 (spl cur (p * 7) (clL x))) : OwnT w' base (l.set p x) (some ⟨g, 0, none⟩) N c := by
  have hs7 : p * 7 + (clL x).length ≤ N * 7 := by
    have : (p + 1) * 7 ≤ N * 7 := Nat.mul_le_mul_right 7 (by omega)
    show p * 7 + 7 ≤ _
    omega
  have hown := own_spl h.own hb hs7 h2
  have hp' : p < l.length := by rw [h.len]; exact hp
  have hsp : spl (l.flatMap Cl.L) (p * 7) (clL x) = (l.set p x).flatMap Cl.L := spl_flat Cl.L 7 Cl.len l p x hp'
  rw [hsp] at hown
  exact ⟨hown, by rw [List.length_set]; exact h.len, fun i => h.at.set_rng hp' rx i⟩
set_option maxHeartbeats 400000 in
theorem cclone10 (l : List Cl) (A : Option Addr) (c N : Nat) (hN : l.length = N) (w : World) (h : CsAt w l A c) (hbig : N ≤ 1024) :
    Calls Try.prog 53 #[.slice A N c] w fun e w' => ∃ A' c', e = .returned (.slice A' N c') ∧ OwnT w' w.heap.size l A' N c' ∧ Below w.heap.size w w' := by
  obtain ⟨i0, hi, hz0, hz1, hz2⟩ := info_parts info_clz
  have q := fun (W : World) (a : Option Addr) (n c n' c' : Nat) => Lib.run_eql_slice_nil (P := Try.prog) W _ _ a n c n' c' Try.underlying68
  have hfl : (l.flatMap Cl.L).length = N * 7 := by rw [flat_len Cl.L 7 Cl.len l, hN]
  have hlen := h.len
  rw [hN] at hlen
  have HL := Go.Lib.hid hN
  have HG := Go.Lib.hid h.rng
  obtain ⟨cs, hcs⟩ : ∃ cs, l.flatMap Cl.L = cs := ⟨_, rfl⟩
  have hrd := h.rd
  have hone := cl_one l
  rw [hcs] at hfl hrd hone
  have HR := Go.Lib.hid hrd
  have H1 := Go.Lib.hid hone
  have HCS := Go.Lib.hid hcs
  clear hrd hone hcs
  have hnil := h.nil
  rcases A with _ | ad
  · have hc := hnil rfl
    subst hc
    obtain rfl : N = 0 := by omega
    have hl : l = [] := List.eq_nil_of_length_eq_zero hN
    subst hl
    clear h hnil hN hfl
    go_enter Try.func53, Try.ntmps53
    go_wp2
    go_ret
    exact ⟨none, 0, rfl, ⟨own_none _ _ _ _, rfl, HG.out⟩, Below.refl _ _⟩
  · have HM := Go.Lib.hid hfl
    clear hfl hnil hN h
    go_enter Try.func53, Try.ntmps53
    go_wp2_with (at_builtin; refine wpList_copy_rdK rfl _ _ 68 rfl 100 i0 _ 7 56 Try.underlying68 hi hz0 hz1 hz2 rfl (by omega) rfl (some ad) N c cs rfl HM.out (fun h => by cases h) HR.out H1.out (by unfold maxLen; omega) (by omega) ?_; intro v2 w2 hown2 hb2)
    obtain ⟨A2, c2, rfl⟩ := own_slice hown2
    go_ret
    exact ⟨A2, c2, rfl, ⟨by rw [HCS.out]; exact hown2, HL.out, HG.out⟩, hb2⟩
end Go.Proofs.Ytofpalmghdapkaa

/- Contracts of package index: seek. -/
namespace Go.Proofs.Ytofpalmghdapkaa
open Go.ChangeShapes Go.WideShapes Go.ChangeAt Go.RowKit
set_option linter.unusedVariables false
set_option linter.unusedSimpArgs false

set_option maxRecDepth 100000 in
set_option maxHeartbeats 8000000 in
theorem cseek10 (l : List Cl) (A : Option Addr) (c N : Nat) (hN : l.length = N) (k : Tp) (rk : RngTp k) (w : World) (h : CsAt w l A c) (h0 : 0 < N) (hbig : N ≤ 1024) (hroom : farC l k < N) (q : Nat) (hq : seekP l k = q) :
    Calls Try.prog 47 #[.slice A N c, tpV k] w fun e w' => e = .returned (.int .i64 q) ∧ Below w.heap.size w w' := by
  have HQ := Go.Lib.hid hq
  have y0 : Below w.heap.size w (w.alloc (oTp k)) := (Below.refl _ _).alloc (Nat.le_refl _) _
  have h1 := Bxo.made w 38 (tpL k)
  have HC := Go.Lib.hid (h.at y0)
  have hlen := h.len
  have hcap := h.cap
  rw [hN] at hlen
  have HL := Go.Lib.hid hN
  obtain ⟨r0, r1⟩ := hash_rng k 0
  obtain ⟨hs, hhs⟩ : ∃ hs, hashT k 0 = hs := ⟨_, rfl⟩
  have HH : Hid (hs % (N : Int) = (homeC k N : Nat)) := Go.Lib.hid (by
    unfold homeC
    rw [hhs]
    rw [hhs] at r0
    obtain ⟨n, rfl⟩ : ∃ n : Nat, hs = (n : Int) := ⟨hs.toNat, by omega⟩
    exact (Int.natCast_emod n N).symm)
  rw [hhs] at r0 r1
  have HHS := Go.Lib.hid hhs
  have hom := homeC_lt k h0
  have RK := Go.Lib.hid rk
  obtain ⟨f, hf⟩ : ∃ f, farC l k = f := ⟨_, rfl⟩
  have HF := Go.Lib.hid hf
  rw [hf] at hroom
  clear hq h hhs rk hN hf
  go_enter Try.func47, Try.ntmps47
  go_upto_region 1 with fail
  generalize w.alloc (oTp k) = W at *
  have HK := Go.Lib.hid h1
  clear h1
  have cv : IntKind.u32.wrap (N : Int) = N := IntWalk.u32_in _ (by omega)
  have em : Int.tmod hs (N : Int) = (homeC k N : Nat) := by rw [Int.tmod_eq_emod_of_nonneg r0]; exact HH.out
  have hl0 : ¬ N = 0 := by omega
  obtain ⟨hm, hom_⟩ : ∃ hm, homeC k N = hm := ⟨_, rfl⟩
  rw [hom_] at em hom
  have HOM : Hid (homeC k l.length = hm) := Go.Lib.hid (by rw [HL.out]; exact hom_)
  clear hom_
  have ew : IntKind.u32.wrap (Int.tmod hs (N : Int)) = (hm : Nat) := by rw [em]; exact IntWalk.u32_in _ (by omega)
  have ew2 : IntKind.u32.wrap ((hm : Nat) : Int) = (hm : Nat) := IntWalk.u32_in _ (by omega)
  have ew3 : IntKind.i64.wrap ((hm : Nat) : Int) = (hm : Nat) := IntWalk.i64_in _ (by omega)
  go_wp2_with (first
    | (refine wpList_load_box rfl 38 _ rfl w.heap.size rfl (tpL k) _ HK.out Try.underlying38 rfl info_tp ?_)
    | (go_at_call 56; refine (chash9 k 0 W hs HHS.out RK.out (by omega) (by omega)).mono ?_; rintro e w1 ⟨rfl, y1⟩; have HK := Go.Lib.hid (HK.out.keep y1 HK.out.lt); have HC := Go.Lib.hid (HC.out.at y1); have x0 := y0.trans (y1.mono y0.size); dsimp only))
  clear cv em ew HHS HH
  go_loopw [5] (fun x wr => ∃ j : Nat, j ≤ f ∧ x = .int .i64 ((hm + j) % N : Nat) ∧ Hid (∀ t, t < j → stopC l k ((hm + t) % N) = false) ∧ Below w1.heap.size w1 wr) (fun x _ => N - distC N hm (intOf x).toNat)
  case atStart => exact ⟨0, by omega, by rw [Nat.add_zero, Nat.mod_eq_of_lt hom], Go.Lib.hid (fun t ht => by omega), Below.refl _ _⟩
  case round =>
    rename World => wo
    obtain ⟨i, hi, rfl, HGO, x1⟩ := hrel
    have ya := x0.trans (x1.mono x0.size)
    have hlt : i < N := by omega
    obtain ⟨p, hp⟩ : ∃ p, (hm + i) % N = p := ⟨_, rfl⟩
    have hpl : p < N := by rw [← hp]; exact Nat.mod_lt _ h0
    obtain ⟨ad, rfl, hcell⟩ := HC.out.cell (by rw [HL.out]; exact hpl)
    obtain ⟨y, hy⟩ : ∃ y, atC l p = y := ⟨_, rfl⟩
    rw [hy] at hcell
    have HY := Go.Lib.hid hy
    have p1 : (0 : Int) ≤ (p : Int) := by omega
    have p2 : (p : Int) < (N : Int) := by omega
    obtain ⟨p9, hp9⟩ : ∃ p9, (p + 1) % N = p9 := ⟨_, rfl⟩
    have HP9 := Go.Lib.hid hp9
    have HP8 : Hid ((hm + (i + 1)) % N = p9) := Go.Lib.hid (by rw [← hp9, ← hp, add_mod3])
    have HPP := Go.Lib.hid hp
    have HD := Go.Lib.hid (dist_of hom hlt)
    have HK := Go.Lib.hid (HK.out.keep x1 HK.out.lt)
    have hW : Below w1.heap.size w1 wo := x1
    rw [hp] at HD ⊢
    clear hy hp hp9
    have HR : Hid (stopC l k p = true → p = q) := Go.Lib.hid (fun hst => by
      have hf : farC l k = i := far_is (by rw [HL.out]; exact hlt) (by rw [HOM.out, HL.out, HPP.out]; exact hst) (fun t ht => by rw [HOM.out, HL.out]; exact HGO.out t ht)
      rw [← HQ.out]; unfold seekP; rw [hf, HOM.out, HL.out, HPP.out])
    have HN : Hid (stopC l k p = false → i + 1 ≤ f ∧ ∀ t, t < i + 1 → stopC l k ((hm + t) % N) = false) := Go.Lib.hid (fun hst => by
      refine ⟨?_, fun t ht => ?_⟩
      · rcases Nat.lt_or_ge i f with h' | h'
        · exact h'
        · exfalso
          have hif : i = f := by omega
          have := far_stop (l := l) (k := k) (by rw [HF.out, HL.out]; exact hroom)
          unfold seekP at this
          rw [HF.out, HOM.out, HL.out, ← hif, HPP.out, hst] at this
          cases this
      · by_cases h' : t < i
        · exact HGO.out t h'
        · rw [show t = i by omega, HPP.out]; exact hst)
    clear HGO
    go_upto_region 2 with fail
    cases hus : y.used
    · have HR := Go.Lib.hid (HR.out (by unfold stopC; rw [HY.out, hus]; rfl))
      clear HN
      try simp only [Act.put, List.setIfInBounds_toArray, List.set_cons_zero, List.set_cons_succ]
      refine wp_region_held_drew (S := fun Y => Below wo.heap.size wo Y) (by kernel_rfl) ?_ (fun hHeld => ?_)
      · exact below_drew (Below.refl _ _)
      refine wpAnyH_take (i := 0) (oi := ⟨some 13, _, _, _, _, _⟩) (v := ?_) rfl (by kernel_rfl) (by kernel_rfl) (by kernel_rfl) (fun _ _ _ h => h) (Or.inl ⟨by rfl, ?_⟩) (by assumption) ?_
      rotate_left
      · intro w hSw; (try dsimp only at hSw); go_simp; (try with_reducible rfl)
      try simp only [Act.put, List.setIfInBounds_toArray, List.set_cons_zero, List.set_cons_succ]
      refine wpAnyH_take (i := 1) (oi := ⟨some 14, _, _, _, _, _⟩) (v := ?_) rfl (by kernel_rfl) (by kernel_rfl) (by kernel_rfl) (fun _ _ _ h => h) (Or.inl ⟨by rfl, ?_⟩) (by assumption) ?_
      rotate_left
      · intro w hSw; (try dsimp only at hSw); go_simp; (try with_reducible rfl)
      try simp only [Act.put, List.setIfInBounds_toArray, List.set_cons_zero, List.set_cons_succ]
      refine wpAnyH_take (i := 2) (oi := ⟨some 15, _, _, _, _, _⟩) (v := ?_) rfl (by kernel_rfl) (by kernel_rfl) (by kernel_rfl) (fun _ _ _ h => h) (Or.inl ⟨by rfl, ?_⟩) (by assumption) ?_
      rotate_left
      · intro w hSw; (try dsimp only at hSw); go_simp; (try with_reducible rfl)
      try simp only [Act.put, List.setIfInBounds_toArray, List.set_cons_zero, List.set_cons_succ]
      refine wpAnyH_take (i := 3) (oi := ⟨some 16, _, _, _, _, _⟩) (v := ?_) rfl (by kernel_rfl) (by kernel_rfl) (by kernel_rfl) (fun _ _ _ h => h) (Or.inl ⟨by rfl, ?_⟩) (by assumption) ?_
      rotate_left
      · intro w hSw; (try dsimp only at hSw); go_simp; (try with_reducible rfl)
      try simp only [Act.put, List.setIfInBounds_toArray, List.set_cons_zero, List.set_cons_succ]
      refine wpAnyH_take (i := 4) (oi := ⟨some 17, _, _, _, _, _⟩) (v := ?_) rfl (by kernel_rfl) (by kernel_rfl) (by kernel_rfl) (fun _ _ _ h => h) (Or.inl ⟨by rfl, ?_⟩) (by assumption) ?_
      rotate_left
      · intro w hSw; have zc := (hcell _ (hW.trans (hSw.mono hW.size))) 0 _ rfl; rw [add_add, Nat.add_zero, hus] at zc; (try dsimp only at hSw); go_simp; (try with_reducible rfl)
      try simp only [Act.put, List.setIfInBounds_toArray, List.set_cons_zero, List.set_cons_succ]
      refine wpAnyH_take (i := 5) (oi := ⟨some 18, _, _, _, _, _⟩) (v := ?_) rfl (by kernel_rfl) (by kernel_rfl) (by kernel_rfl) (fun _ _ _ h => h) (Or.inl ⟨by rfl, ?_⟩) (by assumption) ?_
      rotate_left
      · intro w hSw; (try dsimp only at hSw); go_simp; (try with_reducible rfl)
      try simp only [Act.put, List.setIfInBounds_toArray, List.set_cons_zero, List.set_cons_succ]
      refine wpAnyH_take (i := 6) (oi := ⟨some 19, _, _, _, _, _⟩) (v := undef) rfl (by kernel_rfl) (by kernel_rfl) (by kernel_rfl) (fun _ _ _ h => h) (Or.inr ⟨by rfl, rfl⟩) (by assumption) ?_
      try simp only [Act.put, List.setIfInBounds_toArray, List.set_cons_zero, List.set_cons_succ]
      refine wpAnyH_take (i := 7) (oi := ⟨some 20, _, _, _, _, _⟩) (v := undef) rfl (by kernel_rfl) (by kernel_rfl) (by kernel_rfl) (fun _ _ _ h => h) (Or.inr ⟨by rfl, rfl⟩) (by assumption) ?_
      try simp only [Act.put, List.setIfInBounds_toArray, List.set_cons_zero, List.set_cons_succ]
      refine wpAnyH_take (i := 8) (oi := ⟨some 21, _, _, _, _, _⟩) (v := undef) rfl (by kernel_rfl) (by kernel_rfl) (by kernel_rfl) (fun _ _ _ h => h) (Or.inr ⟨by rfl, rfl⟩) (by assumption) ?_
      try simp only [Act.put, List.setIfInBounds_toArray, List.set_cons_zero, List.set_cons_succ]
      refine wpAnyH_take (i := 9) (oi := ⟨some 22, _, _, _, _, _⟩) (v := undef) rfl (by kernel_rfl) (by kernel_rfl) (by kernel_rfl) (fun _ _ _ h => h) (Or.inr ⟨by rfl, rfl⟩) (by assumption) ?_
      try simp only [Act.put, List.setIfInBounds_toArray, List.set_cons_zero, List.set_cons_succ]
      refine wpAnyH_take (i := 10) (oi := ⟨some 23, _, _, _, _, _⟩) (v := undef) rfl (by kernel_rfl) (by kernel_rfl) (by kernel_rfl) (fun _ _ _ h => h) (Or.inr ⟨by rfl, rfl⟩) (by assumption) ?_
      try simp only [Act.put, List.setIfInBounds_toArray, List.set_cons_zero, List.set_cons_succ]
      refine wpAnyH_take (i := 11) (oi := ⟨some 24, _, _, _, _, _⟩) (v := undef) rfl (by kernel_rfl) (by kernel_rfl) (by kernel_rfl) (fun _ _ _ h => h) (Or.inr ⟨by rfl, rfl⟩) (by assumption) ?_
      try simp only [Act.put, List.setIfInBounds_toArray, List.set_cons_zero, List.set_cons_succ]
      refine wpAnyH_take (i := 12) (oi := ⟨some 25, _, _, _, _, _⟩) (v := undef) rfl (by kernel_rfl) (by kernel_rfl) (by kernel_rfl) (fun _ _ _ h => h) (Or.inr ⟨by rfl, rfl⟩) (by assumption) ?_
      try simp only [Act.put, List.setIfInBounds_toArray, List.set_cons_zero, List.set_cons_succ]
      refine wpAnyH_take (i := 13) (oi := ⟨some 26, _, _, _, _, _⟩) (v := ?_) rfl (by kernel_rfl) (by kernel_rfl) (by kernel_rfl) (fun _ _ _ h => h) (Or.inl ⟨by rfl, ?_⟩) (by assumption) ?_
      rotate_left
      · intro w hSw; (try dsimp only at hSw); go_simp; (try with_reducible rfl)
      try simp only [Act.put, List.setIfInBounds_toArray, List.set_cons_zero, List.set_cons_succ]
      refine wpAnyH_done (by kernel_rfl) ?_ _
      have yq := hHeld
      clear hHeld
      go_wp2
      go_ret
      exact ⟨by rw [HR.out]; rfl, ya.trans (yq.mono ya.size)⟩
    · cases hke : sameTp y.key k
      · obtain ⟨hi9, hn9⟩ := HN.out (by unfold stopC; rw [HY.out, hus, hke]; rfl)
        have HN := Go.Lib.hid hn9
        have HM9 : Hid (distC N hm p9 = i + 1) := Go.Lib.hid (by rw [← HP8.out]; exact dist_of hom (by omega))
        clear hn9
        have nev := fun W => (neTp y.key k W).trans (by rw [hke])
        clear HR
        try simp only [Act.put, List.setIfInBounds_toArray, List.set_cons_zero, List.set_cons_succ]
        refine wp_region_held_drew (S := fun Y => Below wo.heap.size wo Y) (by kernel_rfl) ?_ (fun hHeld => ?_)
        · exact below_drew (Below.refl _ _)
        refine wpAnyH_take (i := 0) (oi := ⟨some 13, _, _, _, _, _⟩) (v := ?_) rfl (by kernel_rfl) (by kernel_rfl) (by kernel_rfl) (fun _ _ _ h => h) (Or.inl ⟨by rfl, ?_⟩) (by assumption) ?_
        rotate_left
        · intro w hSw; (try dsimp only at hSw); go_simp; (try with_reducible rfl)
        try simp only [Act.put, List.setIfInBounds_toArray, List.set_cons_zero, List.set_cons_succ]
        refine wpAnyH_take (i := 1) (oi := ⟨some 14, _, _, _, _, _⟩) (v := ?_) rfl (by kernel_rfl) (by kernel_rfl) (by kernel_rfl) (fun _ _ _ h => h) (Or.inl ⟨by rfl, ?_⟩) (by assumption) ?_
        rotate_left
        · intro w hSw; (try dsimp only at hSw); go_simp; (try with_reducible rfl)
        try simp only [Act.put, List.setIfInBounds_toArray, List.set_cons_zero, List.set_cons_succ]
        refine wpAnyH_take (i := 2) (oi := ⟨some 15, _, _, _, _, _⟩) (v := ?_) rfl (by kernel_rfl) (by kernel_rfl) (by kernel_rfl) (fun _ _ _ h => h) (Or.inl ⟨by rfl, ?_⟩) (by assumption) ?_
        rotate_left
        · intro w hSw; (try dsimp only at hSw); go_simp; (try with_reducible rfl)
        try simp only [Act.put, List.setIfInBounds_toArray, List.set_cons_zero, List.set_cons_succ]
        refine wpAnyH_take (i := 3) (oi := ⟨some 16, _, _, _, _, _⟩) (v := ?_) rfl (by kernel_rfl) (by kernel_rfl) (by kernel_rfl) (fun _ _ _ h => h) (Or.inl ⟨by rfl, ?_⟩) (by assumption) ?_
        rotate_left
        · intro w hSw; (try dsimp only at hSw); go_simp; (try with_reducible rfl)
        try simp only [Act.put, List.setIfInBounds_toArray, List.set_cons_zero, List.set_cons_succ]
        refine wpAnyH_take (i := 4) (oi := ⟨some 17, _, _, _, _, _⟩) (v := ?_) rfl (by kernel_rfl) (by kernel_rfl) (by kernel_rfl) (fun _ _ _ h => h) (Or.inl ⟨by rfl, ?_⟩) (by assumption) ?_
        rotate_left
        · intro w hSw; have zc := (hcell _ (hW.trans (hSw.mono hW.size))) 0 _ rfl; rw [add_add, Nat.add_zero, hus] at zc; (try dsimp only at hSw); go_simp; (try with_reducible rfl)
        try simp only [Act.put, List.setIfInBounds_toArray, List.set_cons_zero, List.set_cons_succ]
        refine wpAnyH_take (i := 5) (oi := ⟨some 18, _, _, _, _, _⟩) (v := ?_) rfl (by kernel_rfl) (by kernel_rfl) (by kernel_rfl) (fun _ _ _ h => h) (Or.inl ⟨by rfl, ?_⟩) (by assumption) ?_
        rotate_left
        · intro w hSw; (try dsimp only at hSw); go_simp; (try with_reducible rfl)
        try simp only [Act.put, List.setIfInBounds_toArray, List.set_cons_zero, List.set_cons_succ]
        refine wpAnyH_take (i := 6) (oi := ⟨some 19, _, _, _, _, _⟩) (v := ?_) rfl (by kernel_rfl) (by kernel_rfl) (by kernel_rfl) (fun _ _ _ h => h) (Or.inl ⟨by rfl, ?_⟩) (by assumption) ?_
        rotate_left
        · intro w hSw; (try dsimp only at hSw); go_simp; (try with_reducible rfl)
        try simp only [Act.put, List.setIfInBounds_toArray, List.set_cons_zero, List.set_cons_succ]
        refine wpAnyH_take (i := 7) (oi := ⟨some 20, _, _, _, _, _⟩) (v := ?_) rfl (by kernel_rfl) (by kernel_rfl) (by kernel_rfl) (fun _ _ _ h => h) (Or.inl ⟨by rfl, ?_⟩) (by assumption) ?_
        rotate_left
        · intro w hSw; (try dsimp only at hSw); go_simp; (try with_reducible rfl)
        try simp only [Act.put, List.setIfInBounds_toArray, List.set_cons_zero, List.set_cons_succ]
        refine wpAnyH_take (i := 8) (oi := ⟨some 21, _, _, _, _, _⟩) (v := ?_) rfl (by kernel_rfl) (by kernel_rfl) (by kernel_rfl) (fun _ _ _ h => h) (Or.inl ⟨by rfl, ?_⟩) (by assumption) ?_
        rotate_left
        · intro w hSw; (try dsimp only at hSw); go_simp; (try with_reducible rfl)
        try simp only [Act.put, List.setIfInBounds_toArray, List.set_cons_zero, List.set_cons_succ]
        refine wpAnyH_take (i := 9) (oi := ⟨some 22, _, _, _, _, _⟩) (v := ?_) rfl (by kernel_rfl) (by kernel_rfl) (by kernel_rfl) (fun _ _ _ h => h) (Or.inl ⟨by rfl, ?_⟩) (by assumption) ?_
        rotate_left
        · intro w hSw; (try dsimp only at hSw); go_simp; (try with_reducible rfl)
        try simp only [Act.put, List.setIfInBounds_toArray, List.set_cons_zero, List.set_cons_succ]
        refine wpAnyH_take (i := 10) (oi := ⟨some 23, _, _, _, _, _⟩) (v := (tpV y.key)) rfl (by kernel_rfl) (by kernel_rfl) (by kernel_rfl) (fun _ _ _ h => h) (yieldsIf_load_at (by rfl) 38 _ rfl ((ad.add (p * 7)).add 1) rfl (tpL y.key) _ (fun Y h => key_cells (hcell Y (hW.trans (h.mono hW.size)))) Try.underlying38 rfl info_tp) (by assumption) ?_
        try simp only [Act.put, List.setIfInBounds_toArray, List.set_cons_zero, List.set_cons_succ]
        refine wpAnyH_take (i := 11) (oi := ⟨some 24, _, _, _, _, _⟩) (v := (tpV k)) rfl (by kernel_rfl) (by kernel_rfl) (by kernel_rfl) (fun _ _ _ h => h) (yieldsIf_load_at (by rfl) 38 _ rfl ⟨w.heap.size, 0, none⟩ rfl (tpL k) _ (fun Y h => (HK.out.keep h HK.out.lt).at) Try.underlying38 rfl info_tp) (by assumption) ?_
        try simp only [Act.put, List.setIfInBounds_toArray, List.set_cons_zero, List.set_cons_succ]
        refine wpAnyH_take (i := 12) (oi := ⟨some 25, _, _, _, _, _⟩) (v := ?_) rfl (by kernel_rfl) (by kernel_rfl) (by kernel_rfl) (fun _ _ _ h => h) (Or.inl ⟨by rfl, ?_⟩) (by assumption) ?_
        rotate_left
        · intro w hSw; (try dsimp only at hSw); go_simp; (try with_reducible rfl)
        try simp only [Act.put, List.setIfInBounds_toArray, List.set_cons_zero, List.set_cons_succ]
        refine wpAnyH_take (i := 13) (oi := ⟨some 26, _, _, _, _, _⟩) (v := ?_) rfl (by kernel_rfl) (by kernel_rfl) (by kernel_rfl) (fun _ _ _ h => h) (Or.inl ⟨by rfl, ?_⟩) (by assumption) ?_
        rotate_left
        · intro w hSw; (try dsimp only at hSw); go_simp; (try with_reducible rfl)
        try simp only [Act.put, List.setIfInBounds_toArray, List.set_cons_zero, List.set_cons_succ]
        refine wpAnyH_done (by kernel_rfl) ?_ _
        have yq := hHeld
        clear hHeld
        go_wp2_with (go_at_call 57; refine (cafter (some ad) c N p _ h0 hbig hpl p9 HP9.out).mono ?_; rintro e w9 ⟨rfl, rfl⟩; dsimp only)
        go_round
        case rel => exact ⟨i + 1, by omega, by rw [HP8.out], HN.out, x1.trans (yq.mono x1.size)⟩
        case measure => simp only [intOf, Int.toNat_natCast]; rw [HM9.out, HD.out]; omega
      · have HR := Go.Lib.hid (HR.out (by unfold stopC; rw [HY.out, hus, hke]; rfl))
        have nev := fun W => (neTp y.key k W).trans (by rw [hke])
        clear HN
        try simp only [Act.put, List.setIfInBounds_toArray, List.set_cons_zero, List.set_cons_succ]
        refine wp_region_held_drew (S := fun Y => Below wo.heap.size wo Y) (by kernel_rfl) ?_ (fun hHeld => ?_)
        · exact below_drew (Below.refl _ _)
        refine wpAnyH_take (i := 0) (oi := ⟨some 13, _, _, _, _, _⟩) (v := ?_) rfl (by kernel_rfl) (by kernel_rfl) (by kernel_rfl) (fun _ _ _ h => h) (Or.inl ⟨by rfl, ?_⟩) (by assumption) ?_
        rotate_left
        · intro w hSw; (try dsimp only at hSw); go_simp; (try with_reducible rfl)
        try simp only [Act.put, List.setIfInBounds_toArray, List.set_cons_zero, List.set_cons_succ]
        refine wpAnyH_take (i := 1) (oi := ⟨some 14, _, _, _, _, _⟩) (v := ?_) rfl (by kernel_rfl) (by kernel_rfl) (by kernel_rfl) (fun _ _ _ h => h) (Or.inl ⟨by rfl, ?_⟩) (by assumption) ?_
        rotate_left
        · intro w hSw; (try dsimp only at hSw); go_simp; (try with_reducible rfl)
        try simp only [Act.put, List.setIfInBounds_toArray, List.set_cons_zero, List.set_cons_succ]
        refine wpAnyH_take (i := 2) (oi := ⟨some 15, _, _, _, _, _⟩) (v := ?_) rfl (by kernel_rfl) (by kernel_rfl) (by kernel_rfl) (fun _ _ _ h => h) (Or.inl ⟨by rfl, ?_⟩) (by assumption) ?_
        rotate_left
        · intro w hSw; (try dsimp only at hSw); go_simp; (try with_reducible rfl)
        try simp only [Act.put, List.setIfInBounds_toArray, List.set_cons_zero, List.set_cons_succ]
        refine wpAnyH_take (i := 3) (oi := ⟨some 16, _, _, _, _, _⟩) (v := ?_) rfl (by kernel_rfl) (by kernel_rfl) (by kernel_rfl) (fun _ _ _ h => h) (Or.inl ⟨by rfl, ?_⟩) (by assumption) ?_
        rotate_left
        · intro w hSw; (try dsimp only at hSw); go_simp; (try with_reducible rfl)
        try simp only [Act.put, List.setIfInBounds_toArray, List.set_cons_zero, List.set_cons_succ]
        refine wpAnyH_take (i := 4) (oi := ⟨some 17, _, _, _, _, _⟩) (v := ?_) rfl (by kernel_rfl) (by kernel_rfl) (by kernel_rfl) (fun _ _ _ h => h) (Or.inl ⟨by rfl, ?_⟩) (by assumption) ?_
        rotate_left
        · intro w hSw; have zc := (hcell _ (hW.trans (hSw.mono hW.size))) 0 _ rfl; rw [add_add, Nat.add_zero, hus] at zc; (try dsimp only at hSw); go_simp; (try with_reducible rfl)
        try simp only [Act.put, List.setIfInBounds_toArray, List.set_cons_zero, List.set_cons_succ]
        refine wpAnyH_take (i := 5) (oi := ⟨some 18, _, _, _, _, _⟩) (v := ?_) rfl (by kernel_rfl) (by kernel_rfl) (by kernel_rfl) (fun _ _ _ h => h) (Or.inl ⟨by rfl, ?_⟩) (by assumption) ?_
        rotate_left
        · intro w hSw; (try dsimp only at hSw); go_simp; (try with_reducible rfl)
        try simp only [Act.put, List.setIfInBounds_toArray, List.set_cons_zero, List.set_cons_succ]
        refine wpAnyH_take (i := 6) (oi := ⟨some 19, _, _, _, _, _⟩) (v := ?_) rfl (by kernel_rfl) (by kernel_rfl) (by kernel_rfl) (fun _ _ _ h => h) (Or.inl ⟨by rfl, ?_⟩) (by assumption) ?_
        rotate_left
        · intro w hSw; (try dsimp only at hSw); go_simp; (try with_reducible rfl)
        try simp only [Act.put, List.setIfInBounds_toArray, List.set_cons_zero, List.set_cons_succ]
        refine wpAnyH_take (i := 7) (oi := ⟨some 20, _, _, _, _, _⟩) (v := ?_) rfl (by kernel_rfl) (by kernel_rfl) (by kernel_rfl) (fun _ _ _ h => h) (Or.inl ⟨by rfl, ?_⟩) (by assumption) ?_
        rotate_left
        · intro w hSw; (try dsimp only at hSw); go_simp; (try with_reducible rfl)
        try simp only [Act.put, List.setIfInBounds_toArray, List.set_cons_zero, List.set_cons_succ]
        refine wpAnyH_take (i := 8) (oi := ⟨some 21, _, _, _, _, _⟩) (v := ?_) rfl (by kernel_rfl) (by kernel_rfl) (by kernel_rfl) (fun _ _ _ h => h) (Or.inl ⟨by rfl, ?_⟩) (by assumption) ?_
        rotate_left
        · intro w hSw; (try dsimp only at hSw); go_simp; (try with_reducible rfl)
        try simp only [Act.put, List.setIfInBounds_toArray, List.set_cons_zero, List.set_cons_succ]
        refine wpAnyH_take (i := 9) (oi := ⟨some 22, _, _, _, _, _⟩) (v := ?_) rfl (by kernel_rfl) (by kernel_rfl) (by kernel_rfl) (fun _ _ _ h => h) (Or.inl ⟨by rfl, ?_⟩) (by assumption) ?_
        rotate_left
        · intro w hSw; (try dsimp only at hSw); go_simp; (try with_reducible rfl)
        try simp only [Act.put, List.setIfInBounds_toArray, List.set_cons_zero, List.set_cons_succ]
        refine wpAnyH_take (i := 10) (oi := ⟨some 23, _, _, _, _, _⟩) (v := (tpV y.key)) rfl (by kernel_rfl) (by kernel_rfl) (by kernel_rfl) (fun _ _ _ h => h) (yieldsIf_load_at (by rfl) 38 _ rfl ((ad.add (p * 7)).add 1) rfl (tpL y.key) _ (fun Y h => key_cells (hcell Y (hW.trans (h.mono hW.size)))) Try.underlying38 rfl info_tp) (by assumption) ?_
        try simp only [Act.put, List.setIfInBounds_toArray, List.set_cons_zero, List.set_cons_succ]
        refine wpAnyH_take (i := 11) (oi := ⟨some 24, _, _, _, _, _⟩) (v := (tpV k)) rfl (by kernel_rfl) (by kernel_rfl) (by kernel_rfl) (fun _ _ _ h => h) (yieldsIf_load_at (by rfl) 38 _ rfl ⟨w.heap.size, 0, none⟩ rfl (tpL k) _ (fun Y h => (HK.out.keep h HK.out.lt).at) Try.underlying38 rfl info_tp) (by assumption) ?_
        try simp only [Act.put, List.setIfInBounds_toArray, List.set_cons_zero, List.set_cons_succ]
        refine wpAnyH_take (i := 12) (oi := ⟨some 25, _, _, _, _, _⟩) (v := ?_) rfl (by kernel_rfl) (by kernel_rfl) (by kernel_rfl) (fun _ _ _ h => h) (Or.inl ⟨by rfl, ?_⟩) (by assumption) ?_
        rotate_left
        · intro w hSw; (try dsimp only at hSw); go_simp; (try with_reducible rfl)
        try simp only [Act.put, List.setIfInBounds_toArray, List.set_cons_zero, List.set_cons_succ]
        refine wpAnyH_take (i := 13) (oi := ⟨some 26, _, _, _, _, _⟩) (v := ?_) rfl (by kernel_rfl) (by kernel_rfl) (by kernel_rfl) (fun _ _ _ h => h) (Or.inl ⟨by rfl, ?_⟩) (by assumption) ?_
        rotate_left
        · intro w hSw; (try dsimp only at hSw); go_simp; (try with_reducible rfl)
        try simp only [Act.put, List.setIfInBounds_toArray, List.set_cons_zero, List.set_cons_succ]
        refine wpAnyH_done (by kernel_rfl) ?_ _
        have yq := hHeld
        clear hHeld
        go_wp2
        go_ret
        exact ⟨by rw [HR.out]; rfl, ya.trans (yq.mono ya.size)⟩
end Go.Proofs.Ytofpalmghdapkaa

/- Contracts of package index: rightPlace, Right. -/
namespace Go.Proofs.Ytofpalmghdapkaa
open Go.ChangeShapes Go.WideShapes Go.ChangeAt Go.RowKit
set_option linter.unusedVariables false
set_option linter.unusedSimpArgs false

set_option maxRecDepth 100000 in
set_option maxHeartbeats 8000000 in
theorem cplace10 (l : List Cl) (A : Option Addr) (c N : Nat) (hN : l.length = N) (w : World) (h : CsAt w l A c) (h0 : 0 < N) (hbig : N ≤ 1024) (hroom : usedN l < N) (p : Nat) (hp : p < N) (b : Bool) (hb : cellOk l p = b) :
    Calls Try.prog 55 #[.slice A N c, .int .i64 p] w fun e w' => e = .returned (.bool b) ∧ Below w.heap.size w w' := by
  have HB := Go.Lib.hid hb
  have hlen := h.len
  have hcap := h.cap
  rw [hN] at hlen
  have HL := Go.Lib.hid hN
  obtain ⟨ad, rfl, hcell⟩ := h.cell (by rw [hN]; exact hp)
  have HKR := Go.Lib.hid (h.rng p)
  obtain ⟨y, hy⟩ : ∃ y, atC l p = y := ⟨_, rfl⟩
  rw [hy] at hcell HKR
  have hfar := far_lt y.key (show usedN l < l.length by rw [hN]; exact hroom)
  rw [hN] at hfar
  obtain ⟨sk, hsk⟩ : ∃ sk, seekP l y.key = sk := ⟨_, rfl⟩
  obtain ⟨rt, hrt⟩ : ∃ rt, rightT y.key = rt := ⟨_, rfl⟩
  have HOK : Hid ((if y.used then (sk == p && rt) else sameCl y cl0) = b) := Go.Lib.hid (by rw [← hb]; unfold cellOk; rw [hy, hsk, hrt])
  have HSK := Go.Lib.hid hsk
  have HRT := Go.Lib.hid hrt
  have HFA := Go.Lib.hid hfar
  have i1 : (0 : Int) ≤ (p : Int) := by omega
  have i2 : (p : Int) < (N : Int) := by omega
  have HW := Go.Lib.hid (hcell w (Below.refl _ _))
  have y0 : Below w.heap.size w (w.alloc (oCl y)) := (Below.refl _ _).alloc (Nat.le_refl _) _
  have hbx := Bxo.made w 100 (clL y)
  have HC := Go.Lib.hid (h.at y0)
  clear hb h hN hy hcell hsk hrt hfar
  go_enter Try.func55, Try.ntmps55
  go_upto_region 2 with (first
    | (refine wpList_load_at rfl 100 _ rfl (ad.add (p * 7)) rfl (clL y) _ HW.out Try.underlying100 rfl info_cl ?_))
  generalize w.alloc (oCl y) = W at *
  have d0 := hbx.cell 0 rfl
  have HX := Go.Lib.hid hbx
  clear hbx HW
  cases hus : y.used
  · rw [hus] at d0 HOK
    have HOK : Hid (sameCl y cl0 = b) := HOK
    clear hus
    have eqv := fun W => (eqCl y cl0 W).trans (by rw [HOK.out])
    go_wp2_with (refine wpList_load_box rfl 100 _ rfl w.heap.size rfl (clL y) _ HX.out Try.underlying100 rfl info_cl ?_)
    go_ret
    exact ⟨rfl, y0⟩
  · rw [hus] at d0 HOK
    have HOK : Hid ((sk == p && rt) = b) := HOK
    clear hus
    cases rt
    · have hbf : b = false := by rw [← HOK.out]; simp
      subst hbf
      go_wp2_with (first
        | (refine wpList_load_at rfl 38 _ rfl ((⟨w.heap.size, 0, none⟩ : Addr).add 1) rfl (tpL y.key) _ (key_cells (fun j v hv => HX.out.at j v hv)) Try.underlying38 rfl info_tp ?_)
        | (go_at_call 25; refine (cright9 y.key W _ HRT.out HKR.out).mono ?_; rintro e w1 ⟨rfl, y1⟩; have x1 := y0.trans (y1.mono y0.size); dsimp only))
      go_ret
      exact ⟨rfl, x1⟩
    · cases hse : (sk == p)
      · have te : ((sk : Int) == (p : Int)) = false := by simp at hse ⊢; omega
        have hbf : b = false := by rw [← HOK.out, hse]; rfl
        subst hbf
        clear hse
        go_wp2_with (first
          | (refine wpList_load_at rfl 38 _ rfl ((⟨w.heap.size, 0, none⟩ : Addr).add 1) rfl (tpL y.key) _ (key_cells (fun j v hv => HX.out.at j v hv)) Try.underlying38 rfl info_tp ?_)
          | (go_at_call 25; refine (cright9 y.key W _ HRT.out HKR.out).mono ?_; rintro e w1 ⟨rfl, y1⟩; have HX := Go.Lib.hid (HX.out.keep y1 HX.out.lt); have x1 := y0.trans (y1.mono y0.size); dsimp only)
          | (go_at_call 47; refine (cseek10 l (some ad) c N HL.out y.key HKR.out w1 (HC.out.at y1) h0 hbig HFA.out sk HSK.out).mono ?_; rintro e w2 ⟨rfl, y2⟩; have x2 := x1.trans (y2.mono x1.size); dsimp only))
        go_ret
        exact ⟨rfl, x2⟩
      · have te : ((sk : Int) == (p : Int)) = true := by simp at hse ⊢; omega
        have hbf : b = true := by rw [← HOK.out, hse]; rfl
        subst hbf
        clear hse
        go_wp2_with (first
          | (refine wpList_load_at rfl 38 _ rfl ((⟨w.heap.size, 0, none⟩ : Addr).add 1) rfl (tpL y.key) _ (key_cells (fun j v hv => HX.out.at j v hv)) Try.underlying38 rfl info_tp ?_)
          | (go_at_call 25; refine (cright9 y.key W _ HRT.out HKR.out).mono ?_; rintro e w1 ⟨rfl, y1⟩; have HX := Go.Lib.hid (HX.out.keep y1 HX.out.lt); have x1 := y0.trans (y1.mono y0.size); dsimp only)
          | (go_at_call 47; refine (cseek10 l (some ad) c N HL.out y.key HKR.out w1 (HC.out.at y1) h0 hbig HFA.out sk HSK.out).mono ?_; rintro e w2 ⟨rfl, y2⟩; have x2 := x1.trans (y2.mono x1.size); dsimp only))
        go_ret
        exact ⟨rfl, x2⟩
set_option maxRecDepth 100000 in
set_option maxHeartbeats 8000000 in
theorem cright10 : RightC10 := by
  intro l A c N w b hN h hbig hb
  have HB := Go.Lib.hid hb
  have HC := Go.Lib.hid h
  have hlen := h.len
  have hcap := h.cap
  rw [hN] at hlen
  have HL := Go.Lib.hid hN
  clear hb h
  cases hs : sizeI (N : Nat)
  · have hb2 : b = false := by
      rw [← HB.out]; unfold rightCB
      rw [← sizeI_nat, hN, hs]; rfl
    subst hb2
    have HS := Go.Lib.hid hs
    clear HB hN hs
    go_enter Try.func46, Try.ntmps46
    go_wp2_with (go_at_call 44; refine (cmayBe _ _ false HS.out).mono ?_; rintro e w1 ⟨rfl, rfl⟩; dsimp only)
    go_ret
    exact ⟨rfl, Below.refl _ _⟩
  · have hsz := sizeC_pos (by rw [← sizeI_nat]; exact hs)
    have HS := Go.Lib.hid hs
    obtain ⟨u, hu⟩ : ∃ u, usedN l = u := ⟨_, rfl⟩
    have HU := Go.Lib.hid hu
    have hule : u ≤ N := by rw [← hu, ← hN]; exact List.countP_le_length
    clear hu hs hN
    by_cases hroom : u < N
    · have h0 : 0 < N := by omega
      have te : ((u : Int) == (N : Int)) = false := by simp; omega
      go_enter Try.func46, Try.ntmps46
      go_wp2_with (first
        | (go_at_call 44; refine (cmayBe _ _ true HS.out).mono ?_; rintro e w1 ⟨rfl, rfl⟩; dsimp only)
        | (go_at_call 54; refine (clen l A c N _ u HL.out HC.out hbig HU.out).mono ?_; rintro e w1 ⟨rfl, y1⟩; dsimp only))
      go_loopw [17] (fun x wr => ∃ j : Nat, j ≤ N ∧ x = .int .i64 j ∧ Hid (∀ t, t < j → cellOk l t = true) ∧ Below w.heap.size w wr) (fun x _ => N - (intOf x).toNat)
      case atStart => exact ⟨0, by omega, rfl, Go.Lib.hid (fun t ht => by omega), y1⟩
      case round =>
        rename World => wo
        obtain ⟨i, hi, rfl, HGO, ya⟩ := hrel
        by_cases hlt : i < N
        · obtain ⟨ok, hok⟩ : ∃ ok, cellOk l i = ok := ⟨_, rfl⟩
          have HO := Go.Lib.hid hok
          have HCW := Go.Lib.hid (HC.out.at ya)
          have HN : Hid (ok = true → ∀ t, t < i + 1 → cellOk l t = true) := Go.Lib.hid (fun h1 t ht => by
            by_cases h' : t < i
            · exact HGO.out t h'
            · rw [show t = i by omega, hok]; exact h1)
          have HF : Hid (ok = false → b = false) := Go.Lib.hid (fun h1 => by
            rw [← HB.out]; unfold rightCB
            have : (List.range l.length).all (cellOk l) = false := by
              rw [List.all_eq_false]
              exact ⟨i, List.mem_range.2 (by rw [HL.out]; exact hlt), by rw [hok, h1]; simp⟩
            rw [this]; simp)
          clear hok HGO
          cases ok
          · have hbf : b = false := HF.out rfl
            subst hbf
            clear HF HN HB
            go_wp2_with (go_at_call 55; refine (cplace10 l A c N HL.out wo HCW.out h0 hbig (by rw [HU.out]; exact hroom) i hlt _ HO.out).mono ?_; rintro e w2 ⟨rfl, y2⟩; have x2 := ya.trans (y2.mono ya.size); dsimp only)
            go_ret
            exact ⟨rfl, x2⟩
          · clear HF
            go_wp2_with (go_at_call 55; refine (cplace10 l A c N HL.out wo HCW.out h0 hbig (by rw [HU.out]; exact hroom) i hlt _ HO.out).mono ?_; rintro e w2 ⟨rfl, y2⟩; have x2 := ya.trans (y2.mono ya.size); dsimp only)
            go_round
            case rel => exact ⟨i + 1, by omega, by go_num, Go.Lib.hid (HN.out rfl), x2⟩
            case measure => simp [intOf]; omega
        · obtain rfl : i = N := by omega
          have hbt : b = true := by
            rw [← HB.out]; unfold rightCB
            rw [HL.out, ← sizeI_nat, HS.out, HU.out, decide_eq_true hroom]
            simp only [Bool.true_and]
            rw [List.all_eq_true]
            intro t ht
            exact HGO.out t (List.mem_range.1 ht)
          subst hbt
          clear HB
          go_wp2
          go_ret
          exact ⟨rfl, ya⟩
    · have hb2 : b = false := by
        rw [← HB.out]; unfold rightCB
        rw [HU.out, HL.out, decide_eq_false hroom]; simp
      subst hb2
      clear HB
      have hge : u = N := by omega
      subst hge
      have te : ((u : Int) == (u : Int)) = true := by simp
      go_enter Try.func46, Try.ntmps46
      go_wp2_with (first
        | (go_at_call 44; refine (cmayBe _ _ true HS.out).mono ?_; rintro e w1 ⟨rfl, rfl⟩; dsimp only)
        | (go_at_call 54; refine (clen l A c u _ u HL.out HC.out hbig HU.out).mono ?_; rintro e w1 ⟨rfl, y1⟩; dsimp only))
      go_ret
      exact ⟨rfl, y1⟩
end Go.Proofs.Ytofpalmghdapkaa

/- Contracts of package index: Get, Put. -/
namespace Go.Proofs.Ytofpalmghdapkaa
open Go.ChangeShapes Go.WideShapes Go.ChangeAt Go.RowKit
set_option linter.unusedVariables false
set_option linter.unusedSimpArgs false

set_option maxRecDepth 100000 in
set_option maxHeartbeats 4000000 in
theorem cget10 : GetC10 := by
  intro l A c N k w q hN h hbig rk hq
  have y0 : Below w.heap.size w (w.alloc (oTp k)) := (Below.refl _ _).alloc (Nat.le_refl _) _
  have h1 := Bxo.made w 38 (tpL k)
  have HC := Go.Lib.hid (h.at y0)
  have hlen := h.len
  have hcap := h.cap
  rw [hN] at hlen
  have HL := Go.Lib.hid hN
  have RK := Go.Lib.hid rk
  clear h rk
  obtain ⟨b, hb⟩ : ∃ b, rightCB l = b := ⟨_, rfl⟩
  have HB := Go.Lib.hid hb
  cases b
  · have hq2 : q = (0, false) := by rw [← hq]; unfold getC; rw [hb]; rfl
    subst hq2
    clear hq hb hN
    go_enter Try.func34, Try.ntmps34
    go_upto_region 1 with fail
    generalize w.alloc (oTp k) = W at *
    go_wp2_with (go_at_call 46; refine (cright10 l A c N W _ HL.out HC.out hbig HB.out).mono ?_; rintro e w1 ⟨rfl, y1⟩; dsimp only)
    refine bodyPost_ret (v := .tuple #[.int .i64 0, .bool false]) ?_ rfl ⟨rfl, y0.trans (y1.mono y0.size)⟩
    simp [results, Try.results34, go_sem]
  · have R := (rightCB_iff l).1 hb
    have hsz := sizeC_pos R.size
    rw [hN] at hsz
    have HFA : Hid (farC l k < N) := Go.Lib.hid (by have := far_lt k R.room; rwa [hN] at this)
    have hsl := (R.seek k).1
    obtain ⟨p, hp⟩ : ∃ p, seekP l k = p := ⟨_, rfl⟩
    rw [hp] at hsl
    obtain ⟨ad, rfl, hcell⟩ := HC.out.cell hsl
    obtain ⟨y, hy⟩ : ∃ y, atC l p = y := ⟨_, rfl⟩
    rw [hy] at hcell
    have hq2 : q = (y.num, y.used) := by rw [← hq]; unfold getC; rw [hb, hp, hy]; rfl
    subst hq2
    have HP := Go.Lib.hid hp
    rw [hN] at hsl
    clear hq hb R hp hy hN
    have i1 : (0 : Int) ≤ (p : Int) := by omega
    have i2 : (p : Int) < (N : Int) := by omega
    go_enter Try.func34, Try.ntmps34
    go_upto_region 1 with fail
    generalize w.alloc (oTp k) = W at *
    have HK := Go.Lib.hid h1
    clear h1
    go_upto_region 4 with (first
      | (refine wpList_load_box rfl 38 _ rfl w.heap.size rfl (tpL k) _ HK.out Try.underlying38 rfl info_tp ?_)
      | (refine wpList_load_at rfl 100 _ rfl (ad.add (p * 7)) rfl (clL y) _ (hcell _ y3) Try.underlying100 rfl info_cl ?_)
      | (go_at_call 46; refine (cright10 l (some ad) c N W _ HL.out HC.out hbig HB.out).mono ?_; rintro e w1 ⟨rfl, y1⟩; have HK := Go.Lib.hid (HK.out.keep y1 HK.out.lt); dsimp only)
      | (go_at_call 47; refine (cseek10 l (some ad) c N HL.out k RK.out w1 (HC.out.at y1) (by omega) hbig HFA.out p HP.out).mono ?_; rintro e w2 ⟨rfl, y2⟩; have y3 := y1.trans (y2.mono y1.size); dsimp only))
    have y4 : Below w.heap.size w (w2.alloc (oCl y)) := below_alloc (y0.trans (y3.mono y0.size)) (Nat.le_trans y0.size y3.size) _
    have hbx := Bxo.made w2 100 (clL y)
    generalize w2.alloc (oCl y) = wx at *
    have d0 := hbx.cell 0 rfl
    have d6 := hbx.cell 6 rfl
    clear hcell hbx
    go_quiet (fail)
    go_wp2
    refine bodyPost_ret (v := .tuple #[.int .i64 y.num, .bool y.used]) ?_ rfl ⟨rfl, below_dn y4 _⟩
    simp [results, Try.results34, go_sem]
theorem TabF.of {w w' : World} {A0 : Option Addr} {q : List Cl × Int} {l : List Cl} {f : Int} {A : Option Addr} {N c base : Nat} (hq : q = (l, f)) (h : OwnT w' base l A N c) (y : Below w.heap.size w w') (hb : w.heap.size ≤ base) : TabF w A0 q (.returned (.tuple #[.slice A N c, .int .i64 f])) w' := by
  subst hq
  exact ⟨A, c, by dsimp only; rw [h.len], h.at, y, .inr fun ad e => Nat.le_trans hb (h.fresh ad e)⟩
theorem OwnT.cell {w : World} {base : Nat} {l : List Cl} {g N c p : Nat} (h : OwnT w base l (some ⟨g, 0, none⟩) N c) (hp : p < N) : ∀ j v, (clL (atC l p))[j]? = some v → w.cell? ((⟨g, p * 7, none⟩ : Addr).add j) = some v := fun j v hv => by
  obtain ⟨ad, e, hc⟩ := h.at.cell (by rw [h.len]; exact hp)
  cases e
  have := hc w (Below.refl _ _) j v hv
  rwa [add_own] at this
theorem OwnT.used {w : World} {base : Nat} {l : List Cl} {g N c p : Nat} (h : OwnT w base l (some ⟨g, 0, none⟩) N c) (hp : p < N) : w.cell? ⟨g, p * 7, none⟩ = some (.bool (atC l p).used) := by
  have := h.cell hp 0 _ rfl
  rwa [add_zero] at this
set_option maxRecDepth 100000 in
set_option maxHeartbeats 8000000 in
theorem cput10 : PutC10 := by
  intro l A c N k n w q hN h hbig rk hq
  have y0 : Below w.heap.size w (w.alloc (oTp k)) := (Below.refl _ _).alloc (Nat.le_refl _) _
  have h1 := Bxo.made w 38 (tpL k)
  have HC := Go.Lib.hid (h.at y0)
  have hlen := h.len
  have hcap := h.cap
  rw [hN] at hlen
  have HL := Go.Lib.hid hN
  have RK := Go.Lib.hid rk
  clear h rk
  obtain ⟨b, hb⟩ : ∃ b, rightCB l = b := ⟨_, rfl⟩
  obtain ⟨t, ht⟩ : ∃ t, rightT k = t := ⟨_, rfl⟩
  have HB := Go.Lib.hid hb
  have HT := Go.Lib.hid ht
  have HQ := Go.Lib.hid hq
  have HN := Go.Lib.hid hN
  clear hq hN
  go_enter Try.func45, Try.ntmps45
  go_upto_region 1 with fail
  generalize w.alloc (oTp k) = W at *
  have HK := Go.Lib.hid h1
  clear h1
  go_upto_region 2 with (go_at_call 53; refine (cclone10 l A c N HL.out W HC.out hbig).mono ?_; rintro e w1 ⟨A1, c1, rfl, ho, y1⟩; have HO := Go.Lib.hid ho; have HK := Go.Lib.hid (HK.out.keep y1 HK.out.lt); have x1 := y0.trans (y1.mono y0.size); have hW := y0.size; clear ho; dsimp only)
  have hnc := (own_cap HO.out.own).1
  cases b
  · have HE : Hid (q = (l, 1)) := Go.Lib.hid (by rw [← HQ.out]; unfold putC; rw [hb]; simp)
    clear HQ hb ht
    go_wp2_with (first
      | (refine wpList_load_box rfl 38 _ rfl w.heap.size rfl (tpL k) _ HK.out Try.underlying38 rfl info_tp ?_)
      | (go_at_call 46; refine (cright10 l A1 c1 N w1 _ HL.out HO.out.at hbig HB.out).mono ?_; rintro e w2 ⟨rfl, y2⟩; have HO2 := Go.Lib.hid (HO.out.keep y2); have x2 := x1.trans (y2.mono x1.size); dsimp only))
    refine bodyPost_ret (v := .tuple #[.slice A1 N c1, .int .i64 1]) ?_ rfl (TabF.of HE.out HO2.out x2 hW)
    simp [results, Try.results45, go_sem]
  · have R := (rightCB_iff l).1 hb
    have hsz := sizeC_pos R.size
    rw [HN.out] at hsz
    have hn1 : 0 < N := by omega
    have HFA : Hid (farC l k < N) := Go.Lib.hid (by have := far_lt k R.room; rwa [HN.out] at this)
    have hsl := (R.seek k).1
    rw [HN.out] at hsl
    obtain ⟨p, hp⟩ : ∃ p, seekP l k = p := ⟨_, rfl⟩
    rw [hp] at hsl
    obtain ⟨y, hy⟩ : ∃ y, atC l p = y := ⟨_, rfl⟩
    obtain ⟨u, hu⟩ : ∃ u, usedN l = u := ⟨_, rfl⟩
    have HU := Go.Lib.hid hu
    have HP := Go.Lib.hid hp
    have HY := Go.Lib.hid hy
    have hul : u < N := by rw [← hu, ← HN.out]; exact R.room
    have i1 : (0 : Int) ≤ (p : Int) := by omega
    have i2 : (p : Int) < (N : Int) := by omega
    have i3 : IntKind.i64.wrap ((N : Int) - 1) = (N : Int) - 1 := IntWalk.i64_in _ (by omega)
    have hput : putC l k n = if t then (if y.used then (l, 10) else if l.length ≤ u + 1 then (l, 8) else (l.set p ⟨true, k, n⟩, 0)) else (l, 1) := by
      unfold putC; rw [hb, ht, hp, hy, hu]; cases t <;> rfl
    have HQ : Hid ((if t then (if y.used then (l, 10) else if l.length ≤ u + 1 then (l, 8) else (l.set p ⟨true, k, n⟩, 0)) else (l, 1)) = q) := Go.Lib.hid (by rw [← hput]; exact HQ.out)
    obtain ⟨g, cur, rfl, _, _, hgb, _⟩ := HO.out.box hn1
    clear hb ht R hp hy hput hu
    cases t
    · have HE : Hid (q = (l, 1)) := Go.Lib.hid (by rw [← HQ.out]; rfl)
      clear HQ
      go_wp2_with (first
        | (refine wpList_load_box rfl 38 _ rfl w.heap.size rfl (tpL k) _ HK.out Try.underlying38 rfl info_tp ?_)
        | (go_at_call 46; refine (cright10 l _ c1 N w1 _ HL.out HO.out.at hbig HB.out).mono ?_; rintro e w2 ⟨rfl, y2⟩; have HO2 := Go.Lib.hid (HO.out.keep y2); have HK := Go.Lib.hid (HK.out.keep y2 (Nat.lt_of_lt_of_le HK.out.lt (Nat.le_refl _))); have x2 := x1.trans (y2.mono x1.size); dsimp only)
        | (go_at_call 25; refine (cright9 k w2 _ HT.out RK.out).mono ?_; rintro e w3 ⟨rfl, y3⟩; have HO3 := Go.Lib.hid (HO2.out.keep y3); have x3 := x2.trans (y3.mono x2.size); dsimp only))
      refine bodyPost_ret (v := .tuple #[.slice (some ⟨g, 0, none⟩) N c1, .int .i64 1]) ?_ rfl (TabF.of HE.out HO3.out x3 hW)
      simp [results, Try.results45, go_sem]
    · go_upto_region 5 with (first
        | (refine wpList_load_box rfl 38 _ rfl w.heap.size rfl (tpL k) _ HK.out Try.underlying38 rfl info_tp ?_)
        | (go_at_call 46; refine (cright10 l _ c1 N w1 _ HL.out HO.out.at hbig HB.out).mono ?_; rintro e w2 ⟨rfl, y2⟩; have HO2 := Go.Lib.hid (HO.out.keep y2); have HK := Go.Lib.hid (HK.out.keep y2 HK.out.lt); have x2 := x1.trans (y2.mono x1.size); dsimp only)
        | (go_at_call 25; refine (cright9 k w2 _ HT.out RK.out).mono ?_; rintro e w3 ⟨rfl, y3⟩; have HO3 := Go.Lib.hid (HO2.out.keep y3); have HK := Go.Lib.hid (HK.out.keep y3 HK.out.lt); have x3 := x2.trans (y3.mono x2.size); dsimp only)
        | (go_at_call 47; refine (cseek10 l _ c1 N HL.out k RK.out w3 HO3.out.at hn1 hbig HFA.out p HP.out).mono ?_; rintro e w4 ⟨rfl, y4⟩; have HO4 := Go.Lib.hid (HO3.out.keep y4); have HK := Go.Lib.hid (HK.out.keep y4 HK.out.lt); have x4 := x3.trans (y4.mono x3.size); dsimp only))
      have d0 := HO4.out.used hsl
      rw [HY.out] at d0
      cases hus : y.used
      · rw [hus] at d0
        by_cases hroom : N ≤ u + 1
        · have HE : Hid (q = (l, 8)) := Go.Lib.hid (by rw [← HQ.out, hus, HN.out, if_pos rfl, if_neg (by simp), if_pos hroom])
          have te : ((u : Int) == (N : Int) - 1) = true := by simp; omega
          clear HQ hus
          go_wp2_with (first
            | (go_at_call 54; refine (clen l _ c1 N w4 u HL.out HO4.out.at hbig HU.out).mono ?_; rintro e w5 ⟨rfl, y5⟩; have HO5 := Go.Lib.hid (HO4.out.keep y5); have x5 := x4.trans (y5.mono x4.size); dsimp only))
          refine bodyPost_ret (v := .tuple #[.slice (some ⟨g, 0, none⟩) N c1, .int .i64 8]) ?_ rfl (TabF.of HE.out HO5.out x5 hW)
          simp [results, Try.results45, go_sem]
        · have HE : Hid (q = (l.set p ⟨true, k, n⟩, 0)) := Go.Lib.hid (by rw [← HQ.out, hus, HN.out, if_pos rfl, if_neg (by simp), if_neg hroom])
          have te : ((u : Int) == (N : Int) - 1) = false := by simp; omega
          clear HQ hus
          go_upto_region 9 with (first
            | (go_at_call 54; refine (clen l _ c1 N w4 u HL.out HO4.out.at hbig HU.out).mono ?_; rintro e w5 ⟨rfl, y5⟩; have HO5 := Go.Lib.hid (HO4.out.keep y5); have HK := Go.Lib.hid (HK.out.keep y5 HK.out.lt); have x5 := x4.trans (y5.mono x4.size); dsimp only))
          obtain ⟨g', cur', he, hbx, hcl, _, hnc'⟩ := HO5.out.box hn1
          cases he
          have HBX := Go.Lib.hid hbx
          have hcur : p * 7 + 7 ≤ cur'.length := by
            rw [hcl]
            have : (p + 1) * 7 ≤ c1 * 7 := Nat.mul_le_mul_right 7 (by omega)
            omega
          clear hbx hcl hnc' d0
          go_wp2_with (first
            | (refine wpList_load_box rfl 38 _ rfl w.heap.size rfl (tpL k) _ HK.out Try.underlying38 rfl info_tp ?_)
            | (refine wpList_store_any rfl 100 _ _ rfl g (p * 7) 100 _ (clL ⟨true, k, n⟩) _ rfl rfl rfl HBX.out info_cl hcur (cl_one1 _) ?_; intro w6 hb6 ho6; have HB6 := Go.Lib.hid hb6; clear hb6))
          have HO6 := HO5.out.set HBX.out hsl (x := ⟨true, k, n⟩) RK.out HB6.out
          have x6 : Below w.heap.size w w6 := x5.trans (ho6.below (Nat.le_trans hW hgb))
          refine bodyPost_ret (v := .tuple #[.slice (some ⟨g, 0, none⟩) N c1, .int .i64 0]) ?_ rfl (TabF.of HE.out HO6 x6 hW)
          simp [results, Try.results45, go_sem]
      · have HE : Hid (q = (l, 10)) := Go.Lib.hid (by rw [← HQ.out, hus, if_pos rfl, if_pos rfl])
        rw [hus] at d0
        clear HQ hus
        go_wp2
        refine bodyPost_ret (v := .tuple #[.slice (some ⟨g, 0, none⟩) N c1, .int .i64 10]) ?_ rfl (TabF.of HE.out HO4.out x4 hW)
        simp [results, Try.results45, go_sem]
end Go.Proofs.Ytofpalmghdapkaa
