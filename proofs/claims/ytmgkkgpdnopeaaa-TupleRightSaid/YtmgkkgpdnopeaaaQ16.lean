/- Lemmas, several texts in one. -/
import Derived.Test.YtmgkkgpdnopeaaaQ04
import Derived.Test.YtmgkkgpdnopeaaaQ01
import Derived.Test.YtmgkkgpdnopeaaaQ15
import Derived.Deep.RegionHeld3
import Derived.Test.YtmgkkgpdnopeaaaRows
import Derived.Test.YtmgkkgpdnopeaaaQ02
import Derived.WalkKit
import Derived.ProofKit
import Derived.OpenShut
import Derived.Below
import Derived.Deep.QuietTactic
import Derived.BigQuiet
import Derived.OwnWalk
import Derived.Test.YtmgkkgpdnopeaaaQ07
import Derived.Test.YtmgkkgpdnopeaaaQ14
import Derived.Deep.DeepCutAuto
import Derived.Deep.CutBlock
/- The contract of package icmp's Parse. -/
namespace Go.Proofs.Ytmgkkgpdnopeaaa
open Go.ChangeShapes Go.WideShapes Go.ChangeAt Go.RowKit
set_option linter.unusedVariables false
set_option linter.unusedSimpArgs false

theorem iword_y (A : Option Addr) (n c : Nat) (l : List UInt8) (B : Nat) (Y : World) (hn : l.length = n) (h : Bs Y B A l) (k : Nat) (ki : Int) (hki : ki = (k : Int)) (hk : k + 1 < n) (hn2 : n ≤ 16777216) (v : Int) (hv : wd l k = v) :
    Calls Try.prog 87 #[.slice A n c, .int .i64 ki] Y fun e w' => e = .returned (.int .u16 v) ∧ ∃ m, w' = Y.drewN m :=
  hv ▸ iword A n c l B Y hn h k ki hki hk hn2
theorem iword_x (A : Option Addr) (n c : Nat) (l : List UInt8) (w Y : World) (hn : l.length = n) (h : Bs w w.heap.size A l) (k : Nat) (ki : Int) (hki : ki = (k : Int)) (hk : k + 1 < n) (hn2 : n ≤ 16777216) (v : Int) (hv : wd l k = v) (y : Below (w.heap.size + 1) (Zi w) Y) :
    Calls Try.prog 87 #[.slice A n c, .int .i64 ki] Y fun e w' => e = .returned (.int .u16 v) ∧ Below (w.heap.size + 1) (Zi w) w' :=
  (iword_y A n c l w.heap.size Y hn (h.below (Zi.below y)) k ki hki hk hn2 v hv).mono fun _ _ ⟨a, m, b⟩ => ⟨a, b ▸ below_dn y m⟩

set_option maxRecDepth 100000 in
set_option maxHeartbeats 8000000 in
theorem iparse (A : Option Addr) (n c : Nat) (l : List UInt8) (w : World) (hn : l.length = n) (h : Bs w w.heap.size A l) (hn2 : n ≤ 16777216) (hnc : n ≤ c) (hc2 : c ≤ 9223372036854775807) :
    Calls Try.prog 73 #[.slice A n c] w (ParsedI w (prsI l)) := by
  obtain ⟨⟨z0, z1, z2, z3⟩, zf⟩ := zi_of (show Below (w.heap.size + 1) (Zi w) (Zi w) from Below.refl _ _)
  have b0 := Zi.below (show Below (w.heap.size + 1) (Zi w) (Zi w) from Below.refl _ _)
  by_cases h2 : n < 8
  · have HP : Hid (prsI l = (2, Ic.empty)) := Go.Lib.hid (by unfold prsI; rw [if_pos (by omega)])
    clear h hn
    go_enter Try.func73, Try.ntmps73
    go_upto_region 1 with fail
    rw [zi_is]
    generalize Zi w = W at *
    go_wp2
    refine bodyPost_ret (v := .tuple #[.agg #[.int .i64 0, .int .i64 0, .int .u32 0, .slice none 0 0], .int .i64 2]) ?_ rfl (parsedI_err HP.out rfl ?_)
    · simp [results, Try.results73, go_sem, z0, z1, z2, z3]
    · exact below_s4 b0 (Nat.le_refl _) _ _ _ _
  by_cases h3 : (65535 : Int) < (n : Int)
  · have HP : Hid (prsI l = (4, Ic.empty)) := Go.Lib.hid (by unfold prsI; rw [if_neg (by omega), if_pos (by omega)])
    clear h hn
    go_enter Try.func73, Try.ntmps73
    go_upto_region 1 with fail
    rw [zi_is]
    generalize Zi w = W at *
    go_wp2
    refine bodyPost_ret (v := .tuple #[.agg #[.int .i64 0, .int .i64 0, .int .u32 0, .slice none 0 0], .int .i64 4]) ?_ rfl (parsedI_err HP.out rfl ?_)
    · simp [results, Try.results73, go_sem, z0, z1, z2, z3]
    · exact below_s4 b0 (Nat.le_refl _) _ _ _ _
  obtain ⟨ad, rfl, hlt, hcell⟩ := g8_cells h (by omega)
  have C0 := hcell 0 (by omega)
  have C1 := hcell 1 (by omega)
  rw [add_zero] at C0
  rw [add_pos ad 1 (by omega)] at C1
  have x00 := g8_lo l 0
  have x01 := g8_hi l 0
  have x10 := g8_lo l 1
  have x11 := g8_hi l 1
  have y40 := wd_lo l 4
  have y41 := wd_hi l 4
  have y60 := wd_lo l 6
  have y61 := wd_hi l 6
  have HN := Go.Lib.hid hn
  have HB := Go.Lib.hid h
  have h8 : 8 ≤ n := by omega
  have n65 : n ≤ 65535 := by omega
  have HP : Hid (prsI l = if fo (tot l) ≠ 65535 then (5, Ic.empty) else (0, ⟨g8 l 0, g8 l 1, wd l 4 * 65536 + wd l 6, l.drop 8⟩)) := Go.Lib.hid (by unfold prsI; rw [if_neg (by omega), if_neg (by omega)]; rfl)
  have HDL : Hid ((l.drop 8).length = n - 8) := Go.Lib.hid (by rw [List.length_drop, hn])
  have HC : Hid (Bs w w.heap.size (if c = 8 then (some ad : Option Addr) else some { block := ad.block, off := ad.off + 8 }) (l.drop 8)) := Go.Lib.hid (by
    have := h.cut 8 c (by omega) (by omega)
    simpa using this)
  have HCN : Hid ((if c = 8 then (some ad : Option Addr) else some { block := ad.block, off := ad.off + 8 }) = none → c - 8 = 0) := Go.Lib.hid (by split <;> (intro h; cases h))
  have i00 : 0 < n := by omega
  have i01 : (1 : Int) < (n : Int) := by omega
  have i8 : (8 : Int) ≤ (c : Int) := by omega
  have i9 : (8 : Int) ≤ (n : Int) := by omega
  obtain ⟨y4, q4⟩ : ∃ y4 : Int, wd l 4 = y4 := ⟨_, rfl⟩
  obtain ⟨y6, q6⟩ : ∃ y6 : Int, wd l 6 = y6 := ⟨_, rfl⟩
  rw [q4] at y40 y41 HP
  rw [q6] at y60 y61 HP
  have Q4 := Go.Lib.hid q4
  have Q6 := Go.Lib.hid q6
  generalize g8 l 0 = x0 at *
  generalize g8 l 1 = x1 at *
  clear h hn hcell q4 q6
  go_enter Try.func73, Try.ntmps73
  go_upto_region 1 with fail
  have x1z : Below (w.heap.size + 1) (Zi w) (Zi w) := Below.refl _ _
  have sz := Zi.size x1z
  rw [zi_is]
  generalize hW : Zi w = W at *
  go_wp2_with fail
  refine (csum_n (some ad) n c l w.heap.size _ HN.out (HB.out.below b0) hn2 hnc hc2).mono ?_
  rintro e w0 ⟨rfl, m0, rfl⟩
  dsimp only
  have x1z := below_dn x1z m0
  obtain ⟨⟨z0, z1, z2, z3⟩, zf⟩ := zi_of (w := w) (by rw [hW]; exact x1z)
  have b0 := below_dn b0 m0
  have s0 : w.heap.size + 1 ≤ (W.drewN m0).heap.size := Nat.le_trans sz x1z.size
  generalize W.drewN m0 = w1 at *
  by_cases hS : fo (tot l) = 65535
  · have HP0 : Hid (prsI l = (0, ⟨x0, x1, y4 * 65536 + y6, l.drop 8⟩)) := Go.Lib.hid (by rw [HP.out, if_neg (by simpa using hS)])
    rw [hS]
    have x1z : Below (w.heap.size + 1) (Zi w) w1 := by rw [hW]; exact x1z
    have C0' := (b0.cell (p := ad) hlt).trans C0
    have C1' := (b0.cell (p := ⟨ad.block, ad.off + 1, none⟩) hlt).trans C1
    clear hS HP z0 z1 z2 z3 zf
    have hwor := u32_or16 y4 y6 y40 y41 y60 y61
    have e0 := IntWalk.i64_in x0 (by omega)
    have e1 := IntWalk.i64_in x1 (by omega)
    have e4 := IntWalk.u32_in y4 (by omega)
    have e6 := IntWalk.u32_in y6 (by omega)
    have e5 := IntWalk.u32_in (y4 * 65536) (by omega)
    have K : ∀ Y, Below (w.heap.size + 1) (Zi w) Y → Y.cell? ad = some (.int .u8 x0) ∧ Y.cell? ⟨ad.block, ad.off + 1, none⟩ = some (.int .u8 x1) ∧ Below w.heap.size w Y := fun Y y => ⟨((Zi.below y).cell (p := ad) hlt).trans C0, ((Zi.below y).cell (p := ⟨ad.block, ad.off + 1, none⟩) hlt).trans C1, Zi.below y⟩
    have K2 : ∀ (Y : World) (a b c d : Value), (Y.cell? ad = some (.int .u8 x0) ∧ Y.cell? ⟨ad.block, ad.off + 1, none⟩ = some (.int .u8 x1) ∧ Below w.heap.size w Y) → (set4 Y w.heap.size a b c d).cell? ad = some (.int .u8 x0) ∧ (set4 Y w.heap.size a b c d).cell? ⟨ad.block, ad.off + 1, none⟩ = some (.int .u8 x1) ∧ Below w.heap.size w (set4 Y w.heap.size a b c d) := fun Y a b c d ⟨k0, k1, k4⟩ => by
      have hh : ∀ (Z : World) (p : Addr) (k : Nat) (u : Value), p.block ≠ w.heap.size → (Z.setCell ⟨w.heap.size, k, none⟩ u).cell? p = Z.cell? p := fun Z p k u hp => World.cell?_setCell_other Z _ _ u (fun e => hp (by first | (rw [e]; done) | rw [← e]))
      have n1 : ad.block ≠ w.heap.size := Nat.ne_of_lt hlt
      refine ⟨?_, ?_, below_s4 k4 (Nat.le_refl _) _ _ _ _⟩
      · rw [hh _ _ _ _ n1, hh _ _ _ _ n1, hh _ _ _ _ n1, hh _ _ _ _ n1]; exact k0
      · rw [hh _ ⟨ad.block, ad.off + 1, none⟩ _ _ n1, hh _ ⟨ad.block, ad.off + 1, none⟩ _ _ n1, hh _ ⟨ad.block, ad.off + 1, none⟩ _ _ n1, hh _ ⟨ad.block, ad.off + 1, none⟩ _ _ n1]; exact k1
    have x1d : Below (w.heap.size + 1) (Zi w) w1.drew := below_drew x1z
    clear hW
    go_upto_region 7 with fail
    try simp only [List.append_eq, List.cons_append, List.nil_append]
    refine wp_region_held_drew (S := (fun Y => Y.cell? ad = some (.int .u8 x0) ∧ Y.cell? ⟨ad.block, ad.off + 1, none⟩ = some (.int .u8 x1) ∧ Below w.heap.size w Y)) (by kernel_rfl) ?_ (fun hHeld => ?_)
    · exact K _ x1d
    refine wpAnyH_take (i := 0) (oi := ⟨some 16, _, _, _, _, _⟩) (v := ?_) rfl (by kernel_rfl) (by kernel_rfl) (by kernel_rfl) (fun _ _ _ h => h) (Or.inl ⟨by rfl, ?_⟩) (by assumption) ?_
    rotate_left
    · intro w hSw; (try dsimp only at hSw); go_simp; (try with_reducible rfl)
    try simp only [Act.put, List.setIfInBounds_toArray, List.set_cons_zero, List.set_cons_succ]
    refine wpAnyH_take (i := 1) (oi := ⟨some 17, _, _, _, _, _⟩) (v := ?_) rfl (by kernel_rfl) (by kernel_rfl) (by kernel_rfl) (fun _ _ _ h => h) (Or.inl ⟨by rfl, ?_⟩) (by assumption) ?_
    rotate_left
    · intro w hSw; (try dsimp only at hSw); go_simp; (try with_reducible rfl)
    try simp only [Act.put, List.setIfInBounds_toArray, List.set_cons_zero, List.set_cons_succ]
    refine wpAnyH_take (i := 2) (oi := ⟨some 18, _, _, _, _, _⟩) (v := ?_) rfl (by kernel_rfl) (by kernel_rfl) (by kernel_rfl) (fun _ _ _ h => h) (Or.inl ⟨by rfl, ?_⟩) (by assumption) ?_
    rotate_left
    · intro w hSw; (try dsimp only at hSw); go_simp; (try with_reducible rfl)
    try simp only [Act.put, List.setIfInBounds_toArray, List.set_cons_zero, List.set_cons_succ]
    refine wpAnyH_take (i := 3) (oi := ⟨some 19, _, _, _, _, _⟩) (v := ?_) rfl (by kernel_rfl) (by kernel_rfl) (by kernel_rfl) (fun _ _ _ h => h) (Or.inl ⟨by rfl, ?_⟩) (by assumption) ?_
    rotate_left
    · intro w hSw; (try dsimp only at hSw); go_simp; (try with_reducible rfl)
    try simp only [Act.put, List.setIfInBounds_toArray, List.set_cons_zero, List.set_cons_succ]
    refine wpAnyH_take (i := 4) (oi := ⟨some 20, _, _, _, _, _⟩) (v := ?_) rfl (by kernel_rfl) (by kernel_rfl) (by kernel_rfl) (fun _ _ _ h => h) (Or.inl ⟨by rfl, ?_⟩) (by assumption) ?_
    rotate_left
    · intro w hSw; (try dsimp only at hSw); go_simp; (try with_reducible rfl)
    try simp only [Act.put, List.setIfInBounds_toArray, List.set_cons_zero, List.set_cons_succ]
    refine wpAnyH_take (i := 5) (oi := ⟨some 21, _, _, _, _, _⟩) (v := ?_) rfl (by kernel_rfl) (by kernel_rfl) (by kernel_rfl) (fun _ _ _ h => h) (Or.inl ⟨by rfl, ?_⟩) (by assumption) ?_
    rotate_left
    · intro w hSw; (try dsimp only at hSw); go_simp; (try with_reducible rfl)
    try simp only [Act.put, List.setIfInBounds_toArray, List.set_cons_zero, List.set_cons_succ]
    refine wpAnyH_take (i := 6) (oi := ⟨some 22, _, _, _, _, _⟩) (v := ?_) rfl (by kernel_rfl) (by kernel_rfl) (by kernel_rfl) (fun _ _ _ h => h) (Or.inl ⟨by rfl, ?_⟩) (by assumption) ?_
    rotate_left
    · intro w hSw; (try dsimp only at hSw); go_simp; (try with_reducible rfl)
    try simp only [Act.put, List.setIfInBounds_toArray, List.set_cons_zero, List.set_cons_succ]
    refine wpAnyH_take (i := 7) (oi := ⟨some 23, _, _, _, _, _⟩) (v := ?_) rfl (by kernel_rfl) (by kernel_rfl) (by kernel_rfl) (fun _ _ _ h => h) (Or.inl ⟨by rfl, ?_⟩) (by assumption) ?_
    rotate_left
    · intro w hSw; (try dsimp only at hSw); go_simp; (try with_reducible rfl)
    try simp only [Act.put, List.setIfInBounds_toArray, List.set_cons_zero, List.set_cons_succ]
    refine wpAnyH_take (i := 8) (oi := ⟨some 24, _, _, _, _, _⟩) (v := ?_) rfl (by kernel_rfl) (by kernel_rfl) (by kernel_rfl) (fun _ _ _ h => h) (Or.inl ⟨by rfl, ?_⟩) (by assumption) ?_
    rotate_left
    · intro w hSw; (try dsimp only at hSw); go_simp; (try with_reducible rfl)
    try simp only [Act.put, List.setIfInBounds_toArray, List.set_cons_zero, List.set_cons_succ]
    refine wpAnyH_take (i := 12) (oi := ⟨some 28, _, _, _, _, _⟩) (v := ?_) rfl (by kernel_rfl) (by kernel_rfl) (by kernel_rfl) (fun _ _ _ h => h) (Or.inl ⟨by rfl, ?_⟩) (by assumption) ?_
    rotate_left
    · intro w hSw; (try dsimp only at hSw); go_simp; (try with_reducible rfl)
    try simp only [Act.put, List.setIfInBounds_toArray, List.set_cons_zero, List.set_cons_succ]
    refine wpAnyH_take (i := 16) (oi := ⟨some 32, _, _, _, _, _⟩) (v := ?_) rfl (by kernel_rfl) (by kernel_rfl) (by kernel_rfl) (fun _ _ _ h => h) (Or.inl ⟨by rfl, ?_⟩) (by assumption) ?_
    rotate_left
    · intro w hSw; (try dsimp only at hSw); go_simp; (try with_reducible rfl)
    try simp only [Act.put, List.setIfInBounds_toArray, List.set_cons_zero, List.set_cons_succ]
    refine wpAnyH_take (i := 17) (oi := ⟨some 33, _, _, _, _, _⟩) (v := ?_) rfl (by kernel_rfl) (by kernel_rfl) (by kernel_rfl) (fun _ _ _ h => h) (Or.inl ⟨by rfl, ?_⟩) (by assumption) ?_
    rotate_left
    · intro w hSw; (try dsimp only at hSw); go_simp; (try with_reducible rfl)
    try simp only [Act.put, List.setIfInBounds_toArray, List.set_cons_zero, List.set_cons_succ]
    refine wpAnyH_ready (rs := [9]) (by kernel_rfl) (by simp) (AllReadyH.cons (o := ⟨some 25, _, _, _, _, _⟩) rfl (fun Kc hKc => ?_) AllReadyH.nil)
    go_simp
    go_at_call 87; refine (iword_x (some ad) n c l w _ HN.out HB.out 4 4 rfl (by omega) hn2 y4 Q4.out x1d).mono ?_; rintro e v1 ⟨rfl, q1⟩
    clear hHeld
    refine hKc.out _ _ ?_ (fun hHeld => ?_)
    · (try dsimp only); exact K _ q1
    clear hKc Kc
    try simp only [Act.put, List.setIfInBounds_toArray, List.set_cons_zero, List.set_cons_succ]
    refine wpAnyH_take (i := 10) (oi := ⟨some 26, _, _, _, _, _⟩) (v := ?_) rfl (by kernel_rfl) (by kernel_rfl) (by kernel_rfl) (fun _ _ _ h => h) (Or.inl ⟨by rfl, ?_⟩) (by assumption) ?_
    rotate_left
    · intro w hSw; (try dsimp only at hSw); go_simp; (try with_reducible rfl)
    try simp only [Act.put, List.setIfInBounds_toArray, List.set_cons_zero, List.set_cons_succ]
    refine wpAnyH_take (i := 11) (oi := ⟨some 27, _, _, _, _, _⟩) (v := ?_) rfl (by kernel_rfl) (by kernel_rfl) (by kernel_rfl) (fun _ _ _ h => h) (Or.inl ⟨by rfl, ?_⟩) (by assumption) ?_
    rotate_left
    · intro w hSw; (try dsimp only at hSw); go_simp; (try with_reducible rfl)
    try simp only [Act.put, List.setIfInBounds_toArray, List.set_cons_zero, List.set_cons_succ]
    refine wpAnyH_ready (rs := [13]) (by kernel_rfl) (by simp) (AllReadyH.cons (o := ⟨some 29, _, _, _, _, _⟩) rfl (fun Kc hKc => ?_) AllReadyH.nil)
    go_simp
    go_at_call 87; refine (iword_x (some ad) n c l w _ HN.out HB.out 6 6 rfl (by omega) hn2 y6 Q6.out q1).mono ?_; rintro e v2 ⟨rfl, q2⟩
    clear hHeld
    refine hKc.out _ _ ?_ (fun hHeld => ?_)
    · (try dsimp only); exact K _ q2
    clear hKc Kc
    try simp only [Act.put, List.setIfInBounds_toArray, List.set_cons_zero, List.set_cons_succ]
    refine wpAnyH_take (i := 14) (oi := ⟨some 30, _, _, _, _, _⟩) (v := ?_) rfl (by kernel_rfl) (by kernel_rfl) (by kernel_rfl) (fun _ _ _ h => h) (Or.inl ⟨by rfl, ?_⟩) (by assumption) ?_
    rotate_left
    · intro w hSw; (try dsimp only at hSw); go_simp; (try with_reducible rfl)
    try simp only [Act.put, List.setIfInBounds_toArray, List.set_cons_zero, List.set_cons_succ]
    refine wpAnyH_take (i := 15) (oi := ⟨some 31, _, _, _, _, _⟩) (v := ?_) rfl (by kernel_rfl) (by kernel_rfl) (by kernel_rfl) (fun _ _ _ h => h) (Or.inl ⟨by rfl, ?_⟩) (by assumption) ?_
    rotate_left
    · intro w hSw; (try dsimp only at hSw); go_simp; (try with_reducible rfl)
    try simp only [Act.put, List.setIfInBounds_toArray, List.set_cons_zero, List.set_cons_succ]
    refine wpAnyH_ready (rs := [18]) (by kernel_rfl) (by simp) (AllReadyH.cons (o := ⟨some 34, _, _, _, _, _⟩) rfl (fun Kc hKc => ?_) AllReadyH.nil)
    go_simp
    go_at_call 83; refine (cclone _ (n - 8) (c - 8) (l.drop 8) w.heap.size _ HDL.out (HC.out.below (Zi.below q2)) (Zi.below q2).size (by omega) HCN.out (by omega)).mono ?_; rintro e w3 ⟨A7, c7, rfl, hg3⟩; have q3 : Below (w.heap.size + 1) (Zi w) w3 := q2.trans (hg3.below.mono (Zi.size q2)); have f7 : ∀ ad, A7 = some ad → w.heap.size < ad.block := (fun ad e => Nat.lt_of_lt_of_le (Nat.lt_succ_self _) (Nat.le_trans (Zi.size q2) (hg3.fresh ad e))); obtain ⟨⟨y0, y1, y2, y3⟩, zf⟩ := zi_of q3
    clear hHeld
    refine hKc.out _ _ ?_ (fun hHeld => ?_)
    · (try dsimp only); exact K _ q3
    clear hKc Kc
    try simp only [Act.put, List.setIfInBounds_toArray, List.set_cons_zero, List.set_cons_succ]
    refine wpAnyH_take (i := 19) (oi := ⟨some 35, _, _, _, _, _⟩) (v := ?_) rfl (by kernel_rfl) (by kernel_rfl) (by kernel_rfl) (fun _ _ _ h => h) (Or.inl ⟨by rfl, ?_⟩) (by assumption) ?_
    rotate_left
    · intro w hSw; (try dsimp only at hSw); go_simp; (try with_reducible rfl)
    try simp only [Act.put, List.setIfInBounds_toArray, List.set_cons_zero, List.set_cons_succ]
    refine wpAnyH_ready (rs := [20]) (by kernel_rfl) (by simp) (AllReadyH.cons (o := ⟨none, _, _, _, _, _⟩) rfl (fun Kc hKc => ?_) AllReadyH.nil)
    go_simp
    clear hHeld
    refine hKc.out _ _ ?_ (fun hHeld => ?_)
    · (try dsimp only); exact K2 _ _ _ _ _ (K _ q3)
    clear hKc Kc
    try simp only [Act.put, List.setIfInBounds_toArray, List.set_cons_zero, List.set_cons_succ]
    refine wpAnyH_take (i := 21) (oi := ⟨some 3, _, _, _, _, _⟩) (v := ?_) rfl (by kernel_rfl) (by kernel_rfl) (by kernel_rfl) (fun _ _ _ h => h) (Or.inl ⟨by rfl, ?_⟩) (by assumption) ?_
    rotate_left
    · intro w hSw; (try dsimp only at hSw); go_simp; (try with_reducible rfl)
    try simp only [Act.put, List.setIfInBounds_toArray, List.set_cons_zero, List.set_cons_succ]
    refine wpAnyH_done (by kernel_rfl) ?_ _
    have HF : Hid (GivesIc w (set4 w3 w.heap.size (.int .i64 x0) (.int .i64 x1) (.int .u32 (y4 * 65536 + y6)) (.slice A7 (n - 8) c7)) ⟨x0, x1, y4 * 65536 + y6, l.drop 8⟩ A7 c7) := Go.Lib.hid (gives_s4 ⟨by show 0 ≤ y4 * 65536 + y6; omega, by show y4 * 65536 + y6 ≤ 4294967295; omega, hg3.len, hg3.cap, hg3.nil, hg3.bs⟩ f7 (Zi.below q3) _ _ _ _)
    clear K K2 hg3 q1 q2 q3 f7 x1d
    go_wp2
    all_goals
      refine bodyPost_ret (v := .tuple #[.agg #[.int .i64 x0, .int .i64 x1, .int .u32 (y4 * 65536 + y6), .slice A7 (n - 8) c7], .int .i64 0]) ?_ rfl (parsedI_ok HP0.out (by rw [icV, HDL.out]) HF.out)
      simp [results, Try.results73, go_sem, y0, y1, y2, y3]
  · have HP5 : Hid (prsI l = (5, Ic.empty)) := Go.Lib.hid (by rw [HP.out, if_pos hS])
    have t2 : (fo (tot l) != 65535) = true := by simpa using hS
    clear hS HP x1z
    generalize fo (tot l) = s at *
    go_wp2
    refine bodyPost_ret (v := .tuple #[.agg #[.int .i64 0, .int .i64 0, .int .u32 0, .slice none 0 0], .int .i64 5]) ?_ rfl (parsedI_err HP5.out rfl ?_)
    · simp [results, Try.results73, go_sem, z0, z1, z2, z3]
    · exact below_s4 b0 (Nat.le_refl _) _ _ _ _

end Go.Proofs.Ytmgkkgpdnopeaaa

/- Contracts of package udp: words of bytes. -/
namespace Go.Proofs.Ytmgkkgpdnopeaaa
open Go.ChangeShapes Go.WideShapes Go.ChangeAt Go.RowKit
set_option linter.unusedVariables false

set_option maxHeartbeats 400000 in
theorem uword (A : Option Addr) (n c : Nat) (l : List UInt8) (B : Nat) (w : World) (hn : l.length = n) (h : Bs w B A l) (k : Nat) (ki : Int) (hki : ki = (k : Int)) (hk : k + 1 < n) (hn2 : n ≤ 16777216) :
    Calls Try.prog 86 #[.slice A n c, .int .i64 ki] w fun e w' => e = .returned (.int .u16 (wd l k)) ∧ ∃ m, w' = w.drewN m := by
  subst hki
  obtain ⟨ad, rfl, hlt, hcell⟩ := g8_cells h (by omega)
  have c0 := hcell k (by omega)
  have c1 := hcell (k + 1) (by omega)
  rw [add_pos ad (k + 1) (by omega)] at c1
  have H := Go.Lib.hid hn
  clear hcell hn h
  have b0 := g8_lo l k
  have b1 := g8_hi l k
  have b2 := g8_lo l (k + 1)
  have b3 := g8_hi l (k + 1)
  have hw := u16_or8 (g8 l k) (g8 l (k + 1)) b0 b1 b2 b3
  have HE : Hid (wd l k = g8 l k * 256 + g8 l (k + 1)) := Go.Lib.hid rfl
  generalize g8 l k = x at *
  generalize g8 l (k + 1) = y at *
  have e1 := IntWalk.u16_in x (by omega)
  have e2 := IntWalk.u16_in y (by omega)
  have e3 := IntWalk.u16_in (x * 256) (by omega)
  have i0 : (k : Int) < (n : Int) := by omega
  have i1 : (k : Int) + 1 < (n : Int) := by omega
  have j0 : (0 : Int) ≤ (k : Int) := by omega
  have j1 : (0 : Int) ≤ (k : Int) + 1 := by omega
  have s1 : IntKind.i64.wrap ((k : Int) + 1) = (k : Int) + 1 := IntWalk.i64_in _ (by omega)
  have s2 : ((k : Int) + 1).toNat = k + 1 := by omega
  go_enter Try.func86, Try.ntmps86
  go_wp2
  go_quiet (fail)
  go_wp2
  go_ret
  exact ⟨ret_int HE.out.symm, _, rfl⟩

set_option maxHeartbeats 400000 in
theorem uupTo (n m : Int) (w : World) :
    Calls Try.prog 57 #[.int .i64 n, .int .i64 m] w fun e w' => e = .returned (.bool (upB n m)) ∧ w = w' := by
  unfold upB
  by_cases h0 : 0 ≤ n
  · by_cases h1 : n ≤ m
    · go_enter Try.func57, Try.ntmps57
      go_wp2
      go_ret
      exact ⟨by simp [h0, h1], rfl⟩
    · go_enter Try.func57, Try.ntmps57
      go_wp2
      go_ret
      exact ⟨by simp [h1], rfl⟩
  · go_enter Try.func57, Try.ntmps57
    go_wp2
    go_ret
    exact ⟨by simp; omega, rfl⟩

set_option maxHeartbeats 400000 in
theorem uputWord (w : World) (base g n c : Nat) (l : List UInt8) (h : Own w base g n c l) (k : Nat) (ki : Int) (hki : ki = (k : Int)) (hk : k + 1 < n) (hn : n ≤ 16777216) (x : Int) (x0 : 0 ≤ x) (x1 : x ≤ 65535) :
    Calls Try.prog 37 #[.slice (some ⟨g, 0, none⟩) n c, .int .i64 ki, .int .u16 x] w fun e w' => e = .returned (.tuple #[]) ∧ Own w' base g n c ((l.set k (b8 (x / 256))).set (k + 1) (b8 (x % 256))) ∧ Below base w w' := by
  subst hki
  have c0 := h.cellAt k (by omega)
  have c1 := h.cellAt (k + 1) (by omega)
  have r0 := h.frozenAt k
  have r1 := h.frozenAt (k + 1)
  obtain ⟨s1, s2⟩ := h.stored k (x / 256) (by omega) (by omega)
  obtain ⟨s3, s4⟩ := s1.stored (k + 1) (x % 256) (by omega) (by omega)
  have S := Go.Lib.hid (And.intro s3 (s2.trans s4))
  clear s1 s2 s3 s4 h
  have e1 := IntKind.wrap_u8 x
  have e2 := IntWalk.u8_in (x / 256) (by omega)
  go_enter Try.func37, Try.ntmps37
  go_wp2
  go_end0
  exact ⟨rfl, S.out⟩
end Go.Proofs.Ytmgkkgpdnopeaaa

/- Contracts of package udp: the sum, the check sum, how long, may it be put, its head. -/
namespace Go.Proofs.Ytmgkkgpdnopeaaa
open Go.ChangeShapes Go.WideShapes Go.ChangeAt Go.RowKit
set_option linter.unusedVariables false
set_option linter.unusedSimpArgs false

set_option maxRecDepth 100000 in
set_option maxHeartbeats 1000000 in
theorem usum (src dst : Int) (A : Option Addr) (n c : Nat) (l : List UInt8) (B : Nat) (w : World) (s : Int) (h6 : sumT 17 src dst l = s) (hs : 0 ≤ src ∧ src ≤ 4294967295) (hd : 0 ≤ dst ∧ dst ≤ 4294967295) (hn : l.length = n) (h : Bs w B A l) (hl : n ≤ 16777216) (hlc : n ≤ c) (hc : c ≤ 9223372036854775807) :
    Calls Try.prog 59 #[.int .u32 src, .int .u32 dst, .slice A n c] w fun e w' => e = .returned (.int .u16 s) ∧ ∃ m, w' = w.drewN m := by
  subst hn
  have HS : Hid (fo (pseudo src dst 17 (l.length : Int) + fo (tot l)) = s) := by show _ = _; rw [← h6]; unfold sumT; rfl
  have HB := Go.Lib.hid h
  clear h h6
  have t0 := fo_lo (tot l)
  have t1 := fo_hi (tot l)
  have p0 := pseudo_lo src dst 17 (l.length : Int)
  have p1 : pseudo src dst 17 (l.length : Int) ≤ 65535 := fo_hi _
  go_enter Try.func59, Try.ntmps59
  go_wp2_with (first
    | (go_at_call 67; refine (cpseudo src dst 17 (l.length : Int) hs hd _).mono ?_; rintro e w1 ⟨rfl, rfl⟩; dsimp only)
    | (go_at_call 56; refine (csum A c l B _ HB.out hl hlc (by unfold maxLen; omega)).mono ?_; rintro e w2 ⟨rfl, m2, rfl⟩; dsimp only)
    | (go_at_call 66; refine (cjoin _ _ ⟨p0, p1⟩ ⟨t0, t1⟩ _).mono ?_; rintro e w3 ⟨rfl, rfl⟩; dsimp only))
  go_ret
  exact ⟨ret_int HS.out, _, rfl⟩

/-- a check sum of a sum: never 0. -/
def ckS (s : Int) : Int := if 65535 - s = 0 then 65535 else 65535 - s
set_option maxRecDepth 100000 in
set_option maxHeartbeats 1000000 in
theorem ucheck (src dst : Int) (A : Option Addr) (n c : Nat) (l : List UInt8) (B : Nat) (w : World) (k : Int) (hk : ckS (sumT 17 src dst l) = k) (hs : 0 ≤ src ∧ src ≤ 4294967295) (hd : 0 ≤ dst ∧ dst ≤ 4294967295) (hn : l.length = n) (h : Bs w B A l) (hl : n ≤ 16777216) (hlc : n ≤ c) (hc : c ≤ 9223372036854775807) :
    Calls Try.prog 38 #[.int .u32 src, .int .u32 dst, .slice A n c] w fun e w' => e = .returned (.int .u16 k) ∧ ∃ m, w' = w.drewN m := by
  obtain ⟨s, hsum⟩ : ∃ s : Int, sumT 17 src dst l = s := ⟨_, rfl⟩
  have y0 := sumT_lo 17 src dst l
  have y1 := sumT_hi 17 src dst l
  rw [hsum] at y0 y1 hk
  have HSM := Go.Lib.hid hsum
  have HK := Go.Lib.hid hk
  have HN := Go.Lib.hid hn
  have HB := Go.Lib.hid h
  clear hsum hk hn h
  have z1 := u16_not s y0 y1
  have z2 : IntKind.u16.signed = false := rfl
  have z3 : IntKind.u16.max = 65535 := rfl
  by_cases hz : 65535 - s = 0
  · have t0 : (65535 - s == 0) = true := by simpa using hz
    have HE : Hid (k = 65535) := Go.Lib.hid (by rw [← HK.out]; unfold ckS; rw [if_pos hz])
    clear hz
    go_enter Try.func38, Try.ntmps38
    go_wp2_with fail
    refine (usum src dst A n c l B _ s HSM.out hs hd HN.out HB.out hl hlc hc).mono ?_
    rintro e w1 ⟨rfl, m, rfl⟩
    dsimp only
    go_wp2
    go_ret
    exact ⟨ret_int HE.out.symm, _, rfl⟩
  · have t0 : (65535 - s == 0) = false := by simpa using hz
    have HE : Hid (k = 65535 - s) := Go.Lib.hid (by rw [← HK.out]; unfold ckS; rw [if_neg hz])
    clear hz
    go_enter Try.func38, Try.ntmps38
    go_wp2_with fail
    refine (usum src dst A n c l B _ s HSM.out hs hd HN.out HB.out hl hlc hc).mono ?_
    rintro e w1 ⟨rfl, m, rfl⟩
    dsimp only
    go_wp2
    go_ret
    exact ⟨ret_int HE.out.symm, _, rfl⟩

set_option maxRecDepth 100000 in
set_option maxHeartbeats 1000000 in
theorem usizeOf (u : Ud) (Ab : Option Addr) (cb : Nat) (w : World) (n : Nat) (hn : 8 + u.body.length = n) (hl : u.body.length ≤ 16777216) :
    Calls Try.prog 58 #[udV u Ab cb] w fun e w' => e = .returned (.int .i64 n) ∧ Below w.heap.size w w' := by
  have HN : Hid ((8 : Int) + (u.body.length : Int) = (n : Int)) := Go.Lib.hid (by omega)
  have e1 := IntWalk.i64_in ((8 : Int) + (u.body.length : Int)) (by omega)
  clear hn
  go_enter Try.func58, Try.ntmps58
  go_wp2
  go_ret
  exact ⟨ret_int HN.out, (Below.refl _ _).alloc (Nat.le_refl _) _⟩

end Go.Proofs.Ytmgkkgpdnopeaaa

/- The contract of package udp's mayBePut. -/
namespace Go.Proofs.Ytmgkkgpdnopeaaa
open Go.ChangeShapes Go.WideShapes Go.ChangeAt Go.RowKit
set_option linter.unusedVariables false
set_option linter.unusedSimpArgs false

theorem uup_b (n m : Int) (b : Bool) (hb : upB n m = b) (w : World) :
    Calls Try.prog 57 #[.int .i64 n, .int .i64 m] w fun e w' => e = .returned (.bool b) ∧ w = w' := hb ▸ uupTo n m w
theorem usizeOf_x (u : Ud) (Ab : Option Addr) (cb : Nat) (W w : World) (n : Nat) (hn : 8 + u.body.length = n) (hl : u.body.length ≤ 16777216) (x : Below W.heap.size W w) :
    Calls Try.prog 58 #[udV u Ab cb] w fun e w' => e = .returned (.int .i64 n) ∧ Below W.heap.size W w' :=
  (usizeOf u Ab cb w n hn hl).mono fun _ _ ⟨a, b⟩ => ⟨a, x.trans (b.mono x.size)⟩
theorem mayU_up (u : Ud) : mayU u = (upB u.sport 65535 && (upB u.dport 65535 && decide (u.body.length ≤ 65527))) := rfl

set_option maxRecDepth 100000 in
set_option maxHeartbeats 4000000 in
theorem umay (u : Ud) (Ab : Option Addr) (cb : Nat) (w : World) (b : Bool) (hb : mayU u = b) (hl : u.body.length ≤ 16777216) :
    Calls Try.prog 35 #[udV u Ab cb] w fun e w' => e = .returned (.bool b) ∧ Below w.heap.size w w' := by
  rw [mayU_up] at hb
  obtain ⟨u1, h1⟩ : ∃ u1 : Bool, upB u.sport 65535 = u1 := ⟨_, rfl⟩
  obtain ⟨u2, h2⟩ : ∃ u2 : Bool, upB u.dport 65535 = u2 := ⟨_, rfl⟩
  rw [h1, h2] at hb
  have H1 := Go.Lib.hid h1
  have H2 := Go.Lib.hid h2
  have HB := Go.Lib.hid hb
  obtain ⟨n, hn⟩ : ∃ n : Nat, 8 + u.body.length = n := ⟨_, rfl⟩
  have HN := Go.Lib.hid hn
  have b0 : Below w.heap.size w (w.alloc (udO u Ab cb)) := (Below.refl _ _).alloc (Nat.le_refl _) _
  have s0 : w.heap.size < (w.alloc (udO u Ab cb)).heap.size := by simp
  clear h1 h2 hb hn
  cases u1
  · have HF : Hid (b = false) := Go.Lib.hid (by rw [← HB.out]; rfl)
    go_enter Try.func35, Try.ntmps35
    go_wp2_with fail
    refine (uup_b _ _ false H1.out _).mono ?_
    rintro e w' ⟨rfl, rfl⟩
    dsimp only
    go_wp2
    go_ret
    exact ⟨ret_bool HF.out.symm, b0⟩
  cases u2
  · have HF : Hid (b = false) := Go.Lib.hid (by rw [← HB.out]; rfl)
    go_enter Try.func35, Try.ntmps35
    go_wp2_with fail
    refine (uup_b _ _ true H1.out _).mono ?_
    rintro e w' ⟨rfl, rfl⟩
    dsimp only
    go_wp2_with fail
    refine (uup_b _ _ false H2.out _).mono ?_
    rintro e w' ⟨rfl, rfl⟩
    dsimp only
    go_wp2
    go_ret
    exact ⟨ret_bool HF.out.symm, b0⟩
  · have HF : Hid (b = decide ((n : Int) ≤ 65535)) := Go.Lib.hid (by have := HN.out; rw [← HB.out]; simp; omega)
    go_enter Try.func35, Try.ntmps35
    go_wp2_with fail
    refine (uup_b _ _ true H1.out _).mono ?_
    rintro e w' ⟨rfl, rfl⟩
    dsimp only
    go_wp2_with fail
    refine (uup_b _ _ true H2.out _).mono ?_
    rintro e w' ⟨rfl, rfl⟩
    dsimp only
    go_wp2_with fail
    refine (usizeOf_x u Ab cb _ _ n HN.out hl (Below.refl _ _)).mono ?_
    rintro e w3 ⟨rfl, hb3⟩
    dsimp only
    go_wp2
    go_ret
    exact ⟨ret_bool HF.out.symm, b0.trans (hb3.mono b0.size)⟩
end Go.Proofs.Ytmgkkgpdnopeaaa

/- The contract of package udp's putHead. -/
namespace Go.Proofs.Ytmgkkgpdnopeaaa
open Go.ChangeShapes Go.WideShapes Go.ChangeAt Go.RowKit
set_option linter.unusedVariables false
set_option linter.unusedSimpArgs false

/-- the eight bytes of a head whose check sum is not yet put. -/
def hd8U (u : Ud) : List UInt8 := [b8 (u.sport / 256), b8 (u.sport % 256), b8 (u.dport / 256), b8 (u.dport % 256), b8 ((8 + (u.body.length : Int)) / 256), b8 ((8 + (u.body.length : Int)) % 256), 0, 0]
theorem udB_hd (u : Ud) : udB u 0 = hd8U u ++ u.body := rfl
theorem sets_ud (x0 x1 x2 x3 x4 x5 : UInt8) : ((((((List.replicate 8 (0 : UInt8)).set 0 x0).set (0 + 1) x1).set 2 x2).set (2 + 1) x3).set 4 x4).set (4 + 1) x5 = [x0, x1, x2, x3, x4, x5, 0, 0] := rfl

set_option maxRecDepth 100000 in
set_option maxHeartbeats 4000000 in
theorem uputHead (u : Ud) (Ab : Option Addr) (cb : Nat) (w : World) (hM : MayU u) :
    Calls Try.prog 36 #[udV u Ab cb] w fun e w' => ∃ g c, e = .returned (.slice (some ⟨g, 0, none⟩) 8 c) ∧ Own w' w.heap.size g 8 c (hd8U u) ∧ Below w.heap.size w w' := by
  obtain ⟨i0, hi, hz0, hz1, hz2⟩ := info_parts info_byte
  obtain ⟨s0, s1, d0, d1, fit⟩ := hM
  obtain ⟨c, hc⟩ : ∃ c : Nat, 8 + u.body.length = c := ⟨_, rfl⟩
  have HC := Go.Lib.hid hc
  have hc' : (8 : Int) + (u.body.length : Int) = (c : Int) := by omega
  have HCI := Go.Lib.hid hc'
  have hc8 : 8 ≤ c := by omega
  have hc65 : c ≤ 65535 := by omega
  have hl16 : u.body.length ≤ 16777216 := by omega
  have hmk : ∀ W : World, (Instr.makeSlice 23 (.int .i64 8) (.int .i64 (c : Int))).run Try.prog W = .ok (.slice (some ⟨W.heap.size, 0, none⟩) 8 c) (W.alloc (.cells (madeCells #[.int .u8 0] c) 5)) := by
    intro W
    have := run_make (P := Try.prog) W 23 5 i0 (.int .u8 0) Try.underlying23 hi hz0 .i64 .i64 8 c (by omega) (by omega) (by rw [hz2]; omega) (by omega)
    simpa [hz1, Value.cells] using this
  have m0 := udIs.made (w := w) (u := u) (A_body := Ab) (c_body := cb)
  have b0 : Below w.heap.size w (w.alloc (.cells #[.int .i64 u.sport, .int .i64 u.dport, .bool u.nosum, .slice Ab u.body.length cb] 50)) := (Below.refl _ _).alloc (Nat.le_refl _) _
  have sz : w.heap.size + 1 ≤ (w.alloc (.cells #[.int .i64 u.sport, .int .i64 u.dport, .bool u.nosum, .slice Ab u.body.length cb] 50)).heap.size := by simp
  clear hc hc' fit
  go_enter Try.func36, Try.ntmps36
  go_upto_region 1 with fail
  generalize w.alloc (.cells #[.int .i64 u.sport, .int .i64 u.dport, .bool u.nosum, .slice Ab u.body.length cb] 50) = W at *
  have M0 := Go.Lib.hid m0
  have K : ∀ Y, Below (w.heap.size + 1) W Y → Y.cell? ⟨w.heap.size, 0, none⟩ = some (.int .i64 u.sport) ∧ Y.cell? ⟨w.heap.size, 1, none⟩ = some (.int .i64 u.dport) ∧ Y.cell? ⟨w.heap.size, 2, none⟩ = some (.bool u.nosum) ∧ Y.cell? ⟨w.heap.size, 3, none⟩ = some (.slice Ab u.body.length cb) := fun Y y => (M0.out.keep y (Nat.lt_succ_self _)).cells
  obtain ⟨c0, c1, c2, c3⟩ := m0.cells
  clear m0
  go_wp2_with fail
  refine (usizeOf u Ab cb W c HC.out hl16).mono ?_
  rintro e w1 ⟨rfl, hb1⟩
  dsimp only
  have x1 : Below (w.heap.size + 1) W w1 := hb1.mono sz
  clear hb1 c0 c1 c2 c3
  go_upto_region 3 with fail
  have zz : w.heap.size + 1 ≤ w1.heap.size := Nat.le_trans sz x1.size
  have o1 := own_made w1 (w.heap.size + 1) 8 c zz hc8 (by unfold maxLen; omega)
  have x2 := x1.trans ((Below.refl _ _).alloc zz (.cells (madeCells #[.int .u8 0] c) 5))
  clear x1 hmk zz
  generalize w1.alloc (.cells (madeCells #[.int .u8 0] c) 5) = w2 at *
  generalize w1.heap.size = g at *
  obtain ⟨kk, _, _, _⟩ := K _ x2
  have y1 := IntWalk.u16_in u.sport (by omega)
  go_wp2_with fail
  refine (uputWord w2 (w.heap.size + 1) g 8 c _ o1 0 _ rfl (by omega) (by omega) u.sport (by omega) (by omega)).mono ?_
  rintro e w3 ⟨rfl, o2, b2⟩
  dsimp only
  have x3 := x2.trans b2
  clear y1 o1 x2 b2 kk
  obtain ⟨_, kk, _, _⟩ := K _ x3
  have y1 := IntWalk.u16_in u.dport (by omega)
  go_wp2_with fail
  refine (uputWord w3 (w.heap.size + 1) g 8 c _ o2 2 _ rfl (by omega) (by omega) u.dport (by omega) (by omega)).mono ?_
  rintro e w4 ⟨rfl, o3, b3⟩
  dsimp only
  have x4 := x3.trans b3
  clear y1 o2 x3 b3 kk
  have y1 := IntWalk.u16_in (c : Int) (by omega)
  go_wp2_with fail
  refine (uputWord w4 (w.heap.size + 1) g 8 c _ o3 4 _ rfl (by omega) (by omega) (c : Int) (by omega) (by omega)).mono ?_
  rintro e w5 ⟨rfl, o4, b4⟩
  dsimp only
  have x5 := x4.trans b4
  clear y1 o3 x4 b4
  rw [sets_ud] at o4
  have hh : [b8 (u.sport / 256), b8 (u.sport % 256), b8 (u.dport / 256), b8 (u.dport % 256), b8 ((c : Int) / 256), b8 ((c : Int) % 256), 0, 0] = hd8U u := by unfold hd8U; rw [HCI.out]
  rw [hh] at o4
  have HF : Hid (Own w5 w.heap.size g 8 c (hd8U u)) := Go.Lib.hid (World.ownsRow.mono o4 (Nat.le_succ _))
  have xF := b0.trans (x5.mono (Nat.le_succ _))
  clear o4 x5
  go_wp2
  go_ret
  exact ⟨g, c, rfl, HF.out, xF⟩
end Go.Proofs.Ytmgkkgpdnopeaaa

/- The contract of package udp's Put. -/
namespace Go.Proofs.Ytmgkkgpdnopeaaa
open Go.ChangeShapes Go.WideShapes Go.ChangeAt Go.RowKit
set_option linter.unusedVariables false
set_option linter.unusedSimpArgs false

theorem chkU_ck (src dst : Int) (u : Ud) (h : u.nosum = false) : chkU src dst u = ckS (sumT 17 src dst (udB u 0)) := by
  unfold chkU chkU0 ckS
  rw [if_neg (by rw [h]; simp)]

set_option maxRecDepth 100000 in
set_option maxHeartbeats 1000000 in
theorem uputNo (src dst : Int) (u : Ud) (Ab : Option Addr) (cb : Nat) (w : World) (hM : mayU u = false) (hbl : u.body.length ≤ 16777216) :
    Calls Try.prog 20 #[.int .u32 src, .int .u32 dst, udV u Ab cb] w fun e w' => e = .returned (.tuple #[.slice none 0 0, .int .i64 1]) ∧ Below w.heap.size w w' := by
  have HM := Go.Lib.hid hM
  have b0 : Below w.heap.size w (w.alloc (.cells #[.int .i64 u.sport, .int .i64 u.dport, .bool u.nosum, .slice Ab u.body.length cb] 50)) := (Below.refl _ _).alloc (Nat.le_refl _) _
  clear hM
  go_enter Try.func20, Try.ntmps20
  go_wp2_with fail
  refine (umay u Ab cb _ false HM.out hbl).mono ?_
  rintro e w1 ⟨rfl, hb1⟩
  dsimp only
  go_wp2
  go_ret2
  exact ⟨rfl, b0.trans (hb1.mono b0.size)⟩

theorem uputHeadE (u : Ud) (Ab : Option Addr) (cb : Nat) (w : World) (hM : MayU u) (v : Value) (hv : udV u Ab cb = v) :
    Calls Try.prog 36 #[v] w fun e w' => ∃ g c, e = .returned (.slice (some ⟨g, 0, none⟩) 8 c) ∧ Own w' w.heap.size g 8 c (hd8U u) ∧ Below w.heap.size w w' := hv ▸ uputHead u Ab cb w hM
set_option maxRecDepth 100000 in
set_option maxHeartbeats 4000000 in
theorem uputYes (src dst : Int) (u : Ud) (Ab : Option Addr) (cb : Nat) (w : World) (hM : MayU u) (hs : 0 ≤ src ∧ src ≤ 4294967295) (hd : 0 ≤ dst ∧ dst ≤ 4294967295) (hI : UdIn w w.heap.size u Ab cb) (N : Nat) (hN : N = 8 + u.body.length) :
    Calls Try.prog 20 #[.int .u32 src, .int .u32 dst, udV u Ab cb] w fun e w' => ∃ g c, e = .returned (.tuple #[.slice (some ⟨g, 0, none⟩) N c, .int .i64 0]) ∧ Own w' w.heap.size g N c (putU src dst u) ∧ Below w.heap.size w w' := by
  obtain ⟨i0, hi, hz0, hz1, hz2⟩ := info_parts info_byte
  have HM := Go.Lib.hid ((mayU_iff u).2 hM)
  have hfit := hM.fit
  have HI := Go.Lib.hid hI
  have HS := Go.Lib.hid hM
  have m0 := udIs.made (w := w) (u := u) (A_body := Ab) (c_body := cb)
  have b0 : Below w.heap.size w (w.alloc (.cells #[.int .i64 u.sport, .int .i64 u.dport, .bool u.nosum, .slice Ab u.body.length cb] 50)) := (Below.refl _ _).alloc (Nat.le_refl _) _
  have sz : w.heap.size + 1 ≤ (w.alloc (.cells #[.int .i64 u.sport, .int .i64 u.dport, .bool u.nosum, .slice Ab u.body.length cb] 50)).heap.size := by simp
  have HNN := Go.Lib.hid hN
  have hN2 : N ≤ 65535 := by omega
  have hN3 : 8 ≤ N := by omega
  have hl16 : u.body.length ≤ 16777216 := by omega
  obtain ⟨vn, hvn⟩ : ∃ vn : Bool, u.nosum = vn := ⟨_, rfl⟩
  have HVN := Go.Lib.hid hvn
  clear hM hI hN hvn
  go_enter Try.func20, Try.ntmps20
  go_upto_region 1 with fail
  generalize w.alloc (.cells #[.int .i64 u.sport, .int .i64 u.dport, .bool u.nosum, .slice Ab u.body.length cb] 50) = W at *
  have M0 := Go.Lib.hid m0
  have K : ∀ Y, Below (w.heap.size + 1) W Y → Y.cell? ⟨w.heap.size, 0, none⟩ = some (.int .i64 u.sport) ∧ Y.cell? ⟨w.heap.size, 1, none⟩ = some (.int .i64 u.dport) ∧ Y.cell? ⟨w.heap.size, 2, none⟩ = some (.bool vn) ∧ Y.cell? ⟨w.heap.size, 3, none⟩ = some (.slice Ab u.body.length cb) ∧ Below (w.heap.size + 1) W Y := fun Y y => by
    obtain ⟨c0, c1, c2, c3⟩ := (M0.out.keep y (Nat.lt_succ_self _)).cells
    exact ⟨c0, c1, by rw [← HVN.out]; exact c2, c3, y⟩
  obtain ⟨c0, c1, c2, c3⟩ := m0.cells
  clear m0
  go_wp2_with fail
  refine (umay u Ab cb W true HM.out hl16).mono ?_
  rintro e w1 ⟨rfl, hb1⟩
  dsimp only
  have x1 : Below (w.heap.size + 1) W w1 := hb1.mono sz
  clear hb1 c0 c1 c2 c3
  go_upto_region 3 with fail
  go_region_held3 (fun Y => Y.cell? ⟨w.heap.size, 0, none⟩ = some (.int .i64 u.sport) ∧ Y.cell? ⟨w.heap.size, 1, none⟩ = some (.int .i64 u.dport) ∧ Y.cell? ⟨w.heap.size, 2, none⟩ = some (.bool vn) ∧ Y.cell? ⟨w.heap.size, 3, none⟩ = some (.slice Ab u.body.length cb) ∧ Below (w.heap.size + 1) W Y)
    (first
      | exact K _ (below_drew x1)
      | exact K _ (hx2.trans ((Below.refl _ _).grown hg (Nat.le_trans sz hx2.size) hblk))
      | exact K _ (hx.trans (hcall.mono (Nat.le_trans sz hx.size))))
    (first
      | (go_at_call 36; obtain ⟨_, _, _, _, hx⟩ := ‹_ ∧ _›; refine (uputHeadE u Ab cb _ HS.out _ (by rw [udV, HVN.out])).mono ?_; rintro e w2 ⟨g, c, rfl, hown, hcall⟩)
      | (obtain ⟨_, _, _, _, hx2⟩ := ‹_ ∧ _›; have hblk : ∀ k, (Value.slice (some ⟨g, 0, none⟩) 8 c).ownBlock = some k → w.heap.size + 1 ≤ k := (fun k hk => by have := hown.lt.1; have := hx.size; simp [Value.ownBlock] at hk; omega); refine step_append_rd rfl _ _ 23 rfl (w.heap.size + 1) 5 i0 (.int .u8 0) 1 Try.underlying23 hi hz0 hz1 hz2 rfl _ _ _ rfl (World.ownsRow.mono hown (Nat.le_trans sz hx.size)) w.heap.size Ab _ cb (u.body.map bv) rfl (by simp) HI.out.bnil ((HI.out.bs.below b0).below (hx2.mono (Nat.le_succ _))).rd (bv_one _) (by unfold maxLen; omega) (by omega) (Nat.le_trans sz hx2.size) ?_; intro v3 w3 hown3 hg hat))
  all_goals
    obtain ⟨-, -, -, -, hx3⟩ := ‹_ ∧ _›
    have hNE := HNN.out
    rw [← hNE] at hown3
    obtain ⟨g', c', rfl, _, _, _, _⟩ := own_form hown3 (by omega)
    have HO3 : Own w3 (w.heap.size + 1) g' N c' (udB u 0) := by
      unfold Own
      rw [udB_hd, List.map_append]
      exact hown3
    clear hown3 hown hcall hx hx2 hg hat hblk hNE
    have H3 := Go.Lib.hid HO3
    have hcap := HO3.cap
    unfold maxLen at hcap
    obtain ⟨hcap1, hcap2⟩ := hcap
    clear HO3
    obtain ⟨-, -, k2, -, -⟩ := K _ hx3
    cases vn with
    | true =>
      have hF : udB u 0 = putU src dst u := by unfold putU; rw [(chkU_zero src dst u).2 HVN.out]
      have H5 : Hid (Own w3 w.heap.size g' N c' (putU src dst u)) := Go.Lib.hid (World.ownsRow.mono (hF ▸ H3.out) (Nat.le_succ _))
      have hx5 := b0.trans (hx3.mono (Nat.le_succ _))
      clear H3 hx3 hF
      go_wp2
      go_ret2
      exact ⟨g', c', rfl, H5.out, hx5⟩
    | false =>
      obtain ⟨k, hk⟩ : ∃ k : Int, ckS (sumT 17 src dst (udB u 0)) = k := ⟨_, rfl⟩
      have hc := chkU_ck src dst u HVN.out
      rw [hk] at hc
      have k0 := chkU_lo src dst u
      have k1 := chkU_hi src dst u
      rw [hc] at k0 k1
      have HK := Go.Lib.hid hk
      have HC := Go.Lib.hid hc
      clear hk hc
      go_wp2_with fail
      refine (ucheck src dst (some ⟨g', 0, none⟩) N c' (udB u 0) w3.heap.size _ k HK.out hs hd H3.out.len H3.out.bs (by omega) hcap1 (by omega)).mono ?_
      rintro e w4 ⟨rfl, m4, rfl⟩
      dsimp only
      have H4 : Hid (Own (w3.drewN m4) (w.heap.size + 1) g' N c' (udB u 0)) := Go.Lib.hid H3.out
      have hx4 : Below (w.heap.size + 1) W (w3.drewN m4) := below_dn hx3 m4
      clear H3 hx3 k2
      generalize w3.drewN m4 = w4 at *
      go_wp2_with fail
      refine (uputWord w4 (w.heap.size + 1) g' N c' _ H4.out 6 _ rfl (by omega) (by omega) k k0 k1).mono ?_
      rintro e w5 ⟨rfl, o5, b5⟩
      dsimp only
      rw [ud_set u k] at o5
      have hF : udB u k = putU src dst u := by unfold putU; rw [HC.out]
      rw [hF] at o5
      have H5 := Go.Lib.hid (World.ownsRow.mono o5 (Nat.le_succ _))
      have hx5 := b0.trans ((hx4.trans b5).mono (Nat.le_succ _))
      clear o5 hx4 b5 H4
      go_wp2
      go_ret2
      exact ⟨g', c', rfl, H5.out, hx5⟩
/-- what the document's Put has, package udp's has. -/
theorem uputU (src dst : Int) (u : Ud) (Ab : Option Addr) (cb : Nat) (L : List UInt8) (n : Nat) (r : Int) (hL : PutUL src dst u L n r) (w : World) (hs : 0 ≤ src ∧ src ≤ 4294967295) (hd : 0 ≤ dst ∧ dst ≤ 4294967295)
    (hI : UdIn w w.heap.size u Ab cb) (hbl : u.body.length ≤ 16777216) :
    Calls Try.prog 20 #[.int .u32 src, .int .u32 dst, udV u Ab cb] w (PutPost L n r w) := by
  by_cases hm : mayU u = true
  · have M := (mayU_iff u).1 hm
    obtain ⟨rfl, hn, rfl⟩ := hL.yes M
    refine (uputYes src dst u Ab cb w M hs hd hI n hn).mono ?_
    rintro e w' ⟨g, c, rfl, ho, hb⟩
    exact PutPost.of _ c rfl ho.bs hb
  · have hm' : mayU u = false := by simpa using hm
    obtain ⟨rfl, rfl, rfl⟩ := hL.no (fun M => hm ((mayU_iff u).2 M))
    refine (uputNo src dst u Ab cb w hm' hbl).mono ?_
    rintro e w' ⟨rfl, hb⟩
    exact PutPost.of _ 0 rfl Bs.nil_ hb
end Go.Proofs.Ytmgkkgpdnopeaaa

/- The contract of package udp's measure; a world in which an empty datagram lies in the newest block. -/
namespace Go.Proofs.Ytmgkkgpdnopeaaa
open Go.ChangeShapes Go.WideShapes Go.ChangeAt Go.RowKit
set_option linter.unusedVariables false
set_option linter.unusedSimpArgs false

/-- what is told of a datagram's length. -/
def umE (l : List UInt8) : Int := if l.length < 8 then 2 else if wd l 4 < 8 ∨ (l.length : Int) < wd l 4 then 4 else 0
def umH (l : List UInt8) : Int := if umE l = 0 then wd l 4 else 0
theorem umE_ok {l : List UInt8} (h : umE l = 0) : 8 ≤ l.length ∧ 8 ≤ wd l 4 ∧ wd l 4 ≤ (l.length : Int) := by
  unfold umE at h
  split at h
  · cases h
  · split at h
    · cases h
    · omega
theorem prsU_meas {src dst : Int} {l : List UInt8} (h : umE l ≠ 0) : prsU src dst l = (umE l, Ud.empty) := by
  unfold umE at h ⊢
  unfold prsU
  split
  · rfl
  · split
    · rfl
    · rename_i h1 h2; rw [if_neg h1, if_neg h2] at h; exact absurd rfl h

set_option maxRecDepth 100000 in
set_option maxHeartbeats 1000000 in
theorem umeasure (A : Option Addr) (n c : Nat) (l : List UInt8) (B : Nat) (w : World) (hn : l.length = n) (h : Bs w B A l) (hn2 : n ≤ 16777216) :
    Calls Try.prog 71 #[.slice A n c] w fun e w' => e = .returned (.tuple #[.int .i64 (umH l), .int .i64 (umE l)]) ∧ ∃ m, w' = w.drewN m := by
  by_cases h8 : n < 8
  · have e : umE l = 2 := by unfold umE; rw [if_pos (by omega)]
    have e2 : umH l = 0 := by unfold umH; rw [e]; rfl
    rw [e, e2]
    clear e e2 hn h
    go_enter Try.func71, Try.ntmps71
    go_wp2
    go_ret2
    exact ⟨rfl, 0, rfl⟩
  have HN := Go.Lib.hid hn
  have HB := Go.Lib.hid h
  have b0 := wd_lo l 4
  have b1 := wd_hi l 4
  by_cases h3 : wd l 4 < 8 ∨ (n : Int) < wd l 4
  · have e : umE l = 4 := by unfold umE; rw [if_neg (by omega), if_pos (by rw [hn]; exact h3)]
    have e2 : umH l = 0 := by unfold umH; rw [e]; rfl
    rw [e, e2]
    obtain ⟨x, hx⟩ : ∃ x : Int, wd l 4 = x := ⟨_, rfl⟩
    rw [hx] at h3 b0 b1
    have HX := Go.Lib.hid hx
    have h3' : x < 8 ∨ (8 ≤ x ∧ (n : Int) < x) := by omega
    have y1 := IntWalk.i64_in x (by omega)
    clear e e2 hn h h3 hx
    rcases h3' with h3 | ⟨h3, h5⟩
    all_goals
      go_enter Try.func71, Try.ntmps71
      go_wp2_with fail
      refine (uword A n c l B _ HN.out HB.out 4 _ rfl (by omega) hn2).mono ?_
      rw [HX.out]
      rintro e w1 ⟨rfl, m, rfl⟩
      dsimp only
      go_wp2
      go_ret2
      exact ⟨rfl, _, rfl⟩
  · have e : umE l = 0 := by unfold umE; rw [if_neg (by omega), if_neg (by rw [hn]; exact h3)]
    have e2 : umH l = wd l 4 := by unfold umH; rw [e]; rfl
    rw [e, e2]
    obtain ⟨x, hx⟩ : ∃ x : Int, wd l 4 = x := ⟨_, rfl⟩
    rw [hx] at h3 b0 b1
    rw [hx]
    have HX := Go.Lib.hid hx
    have h4 : 8 ≤ x := by omega
    have h5 : x ≤ (n : Int) := by omega
    have y1 := IntWalk.i64_in x (by omega)
    clear e e2 hn h h3 hx
    go_enter Try.func71, Try.ntmps71
    go_wp2_with fail
    refine (uword A n c l B _ HN.out HB.out 4 _ rfl (by omega) hn2).mono ?_
    rw [HX.out]
    rintro e w1 ⟨rfl, m, rfl⟩
    dsimp only
    go_wp2
    go_ret2
    exact ⟨rfl, _, rfl⟩

/-- a world in which an empty datagram lies in the newest block. -/
abbrev Zu (w : World) : World := w.alloc (.cells #[.int .i64 0, .int .i64 0, .bool false, .slice none 0 0] 50)
theorem Zu.below {w X : World} (x : Below (w.heap.size + 1) (Zu w) X) : Below w.heap.size w X := ((Below.refl _ _).alloc (Nat.le_refl _) _).trans (x.mono (Nat.le_succ _))
theorem Zu.size {w X : World} (x : Below (w.heap.size + 1) (Zu w) X) : w.heap.size + 1 ≤ X.heap.size := by have := x.size; simpa using this
theorem zu_of {w w' : World} (h : Below (w.heap.size + 1) (Zu w) w') :
    (w'.cell? ⟨w.heap.size, 0, none⟩ = some (.int .i64 0) ∧ w'.cell? ⟨w.heap.size, 1, none⟩ = some (.int .i64 0) ∧ w'.cell? ⟨w.heap.size, 2, none⟩ = some (.bool false) ∧ w'.cell? ⟨w.heap.size, 3, none⟩ = some (.slice none 0 0)) ∧
    (∀ o, w'.frozen? ⟨w.heap.size, o, none⟩ = false) := by
  have hc := fun (o : Nat) => Below.cell h (p := ⟨w.heap.size, o, none⟩) (Nat.lt_succ_self _)
  refine ⟨⟨?_, ?_, ?_, ?_⟩, fun o => ?_⟩
  · refine (hc _).trans ?_; simp [go_sem]
  · refine (hc _).trans ?_; simp [go_sem]
  · refine (hc _).trans ?_; simp [go_sem]
  · refine (hc _).trans ?_; simp [go_sem]
  · refine (Below.frozen h (p := ⟨w.heap.size, o, none⟩) (Nat.lt_succ_self _)).trans ?_; simp [go_sem]
/-- four cells of block g are put. -/
abbrev set4U (w : World) (g : Nat) (u0 u1 u2 u3 : Value) : World := ((((w.setCell ⟨g, 0, none⟩ u0).setCell ⟨g, 1, none⟩ u1).setCell ⟨g, 2, none⟩ u2).setCell ⟨g, 3, none⟩ u3)
theorem below_s4U {C g : Nat} {a w : World} (h : Below C a w) (hg : C ≤ g) (u0 u1 u2 u3 : Value) : Below C a (set4U w g u0 u1 u2 u3) := (Below.setCell (Below.setCell (Below.setCell (Below.setCell h (p := ⟨g, 0, none⟩) hg u0) (p := ⟨g, 1, none⟩) hg u1) (p := ⟨g, 2, none⟩) hg u2) (p := ⟨g, 3, none⟩) hg u3)
theorem size_s4U (w : World) (g : Nat) (u0 u1 u2 u3 : Value) : (set4U w g u0 u1 u2 u3).heap.size = w.heap.size := by simp [set4U]
theorem bs_farU {w : World} {B : Nat} {A : Option Addr} {l : List UInt8} (h : Bs w B A l) {g : Nat} (hg : ∀ ad, A = some ad → g < ad.block) (k : Nat) (u : Value) : Bs (w.setCell ⟨g, k, none⟩ u) B A l := by
  rcases h with h | ⟨ad, rfl, hlt, hc⟩
  · exact .inl h
  · have hg := hg ad rfl
    refine .inr ⟨ad, rfl, hlt, fun j b hj => ?_⟩
    rw [World.cell?_setCell_other w _ _ u (fun e => by have := congrArg Addr.block e; simp [block_add] at this; omega)]
    exact hc j b hj
theorem bs_s4U {w : World} {B : Nat} {A : Option Addr} {l : List UInt8} (h : Bs w B A l) {g : Nat} (hg : ∀ ad, A = some ad → g < ad.block) (u0 u1 u2 u3 : Value) : Bs (set4U w g u0 u1 u2 u3) B A l :=
  bs_farU (bs_farU (bs_farU (bs_farU h hg 0 u0) hg 1 u1) hg 2 u2) hg 3 u3
theorem uword_x (A : Option Addr) (n c : Nat) (l : List UInt8) (w Y : World) (hn : l.length = n) (h : Bs w w.heap.size A l) (k : Nat) (ki : Int) (hki : ki = (k : Int)) (hk : k + 1 < n) (hn2 : n ≤ 16777216) (y : Below (w.heap.size + 1) (Zu w) Y) :
    Calls Try.prog 86 #[.slice A n c, .int .i64 ki] Y fun e w' => e = .returned (.int .u16 (wd l k)) ∧ Below (w.heap.size + 1) (Zu w) w' :=
  (uword A n c l w.heap.size Y hn (h.below (Zu.below y)) k ki hki hk hn2).mono fun _ _ ⟨a, m, b⟩ => ⟨a, b ▸ below_dn y m⟩
end Go.Proofs.Ytmgkkgpdnopeaaa

/- The contract of package udp's read. -/
namespace Go.Proofs.Ytmgkkgpdnopeaaa
open Go.ChangeShapes Go.WideShapes Go.ChangeAt Go.RowKit
set_option linter.unusedVariables false
set_option linter.unusedSimpArgs false

/-- a datagram's parts out of its bytes. -/
def rdU (l : List UInt8) : Ud := ⟨wd l 0, wd l 2, wd l 6 == 0, l.drop 8⟩
structure ReadU (w w' : World) (u : Ud) (Ab : Option Addr) (cb : Nat) : Prop where
  is : UdIn w' w'.heap.size u Ab cb
  below : Below w.heap.size w w'
  fresh : ∀ ad, Ab = some ad → w.heap.size ≤ ad.block

set_option maxRecDepth 100000 in
set_option maxHeartbeats 8000000 in
theorem uread (A : Option Addr) (n c : Nat) (l : List UInt8) (w : World) (hn : l.length = n) (h : Bs w w.heap.size A l) (hn2 : n ≤ 16777216) (h8 : 8 ≤ n) (hnc : n ≤ c) (hc63 : c ≤ 9223372036854775807) :
    Calls Try.prog 72 #[.slice A n c] w fun e w' => ∃ Ab cb, e = .returned (udV (rdU l) Ab cb) ∧ ReadU w w' (rdU l) Ab cb := by
  obtain ⟨ad, rfl, hlt, _⟩ := g8_cells h (by omega)
  have HL := Go.Lib.hid h
  have HN := Go.Lib.hid hn
  have HDB : Hid (Bs w w.heap.size (if c = 8 then (some ad : Option Addr) else some { block := ad.block, off := ad.off + 8 }) (l.drop 8)) := Go.Lib.hid (h.cut 8 c (by omega) (by omega))
  have HDN : Hid ((if c = 8 then (some ad : Option Addr) else some { block := ad.block, off := ad.off + 8 }) = none → c - 8 = 0) := Go.Lib.hid (fun h => by split at h <;> cases h)
  have HDL : Hid ((l.drop 8).length = n - 8) := Go.Lib.hid (by rw [List.length_drop, hn])
  have i1 : (8 : Int) ≤ (n : Int) := by omega
  have i2 : (8 : Int) ≤ (c : Int) := by omega
  have r0 := IntWalk.i64_in (wd l 0) (by have := wd_lo l 0; have := wd_hi l 0; omega)
  have r2 := IntWalk.i64_in (wd l 2) (by have := wd_lo l 2; have := wd_hi l 2; omega)
  clear hn h
  go_enter Try.func72, Try.ntmps72
  go_upto_region 1 with fail
  have x0 : Below (w.heap.size + 1) (Zu w) ((Zu w).drewN 1) := below_dn (Below.refl _ _) 1
  refine wp_region_held_drew (S := (fun Y => Below w.heap.size w Y)) (by kernel_rfl) ?_ (fun hHeld => ?_)
  · exact Zu.below x0
  refine wpAnyH_take (i := 0) (oi := ⟨some 3, _, _, _, _, _⟩) (v := ?_) rfl (by kernel_rfl) (by kernel_rfl) (by kernel_rfl) (fun _ _ _ h => h) (Or.inl ⟨by rfl, ?_⟩) (by assumption) ?_
  rotate_left
  · intro w hSw; (try dsimp only at hSw); go_simp; (try with_reducible rfl)
  try simp only [Act.put, List.setIfInBounds_toArray, List.set_cons_zero, List.set_cons_succ]
  refine wpAnyH_take (i := 3) (oi := ⟨some 6, _, _, _, _, _⟩) (v := ?_) rfl (by kernel_rfl) (by kernel_rfl) (by kernel_rfl) (fun _ _ _ h => h) (Or.inl ⟨by rfl, ?_⟩) (by assumption) ?_
  rotate_left
  · intro w hSw; (try dsimp only at hSw); go_simp; (try with_reducible rfl)
  try simp only [Act.put, List.setIfInBounds_toArray, List.set_cons_zero, List.set_cons_succ]
  refine wpAnyH_take (i := 6) (oi := ⟨some 9, _, _, _, _, _⟩) (v := ?_) rfl (by kernel_rfl) (by kernel_rfl) (by kernel_rfl) (fun _ _ _ h => h) (Or.inl ⟨by rfl, ?_⟩) (by assumption) ?_
  rotate_left
  · intro w hSw; (try dsimp only at hSw); go_simp; (try with_reducible rfl)
  try simp only [Act.put, List.setIfInBounds_toArray, List.set_cons_zero, List.set_cons_succ]
  refine wpAnyH_take (i := 9) (oi := ⟨some 12, _, _, _, _, _⟩) (v := ?_) rfl (by kernel_rfl) (by kernel_rfl) (by kernel_rfl) (fun _ _ _ h => h) (Or.inl ⟨by rfl, ?_⟩) (by assumption) ?_
  rotate_left
  · intro w hSw; (try dsimp only at hSw); go_simp; (try with_reducible rfl)
  try simp only [Act.put, List.setIfInBounds_toArray, List.set_cons_zero, List.set_cons_succ]
  refine wpAnyH_take (i := 10) (oi := ⟨some 13, _, _, _, _, _⟩) (v := ?_) rfl (by kernel_rfl) (by kernel_rfl) (by kernel_rfl) (fun _ _ _ h => h) (Or.inl ⟨by rfl, ?_⟩) (by assumption) ?_
  rotate_left
  · intro w hSw; (try dsimp only at hSw); go_simp; (try with_reducible rfl)
  try simp only [Act.put, List.setIfInBounds_toArray, List.set_cons_zero, List.set_cons_succ]
  refine wpAnyH_ready (rs := [1]) (by kernel_rfl) (by simp) (AllReadyH.cons (o := ⟨some 4, _, _, _, _, _⟩) rfl (fun Kc hKc => ?_) AllReadyH.nil)
  go_simp
  go_at_call 86; refine (uword_x (some ad) n c l w _ HN.out HL.out 0 0 rfl (by omega) hn2 x0).mono ?_; rintro e v1 ⟨rfl, x1⟩
  clear hHeld
  refine hKc.out _ _ ?_ (fun hHeld => ?_)
  · (try dsimp only); exact Zu.below x1
  clear hKc Kc
  try simp only [Act.put, List.setIfInBounds_toArray, List.set_cons_zero, List.set_cons_succ]
  refine wpAnyH_take (i := 2) (oi := ⟨some 5, _, _, _, _, _⟩) (v := ?_) rfl (by kernel_rfl) (by kernel_rfl) (by kernel_rfl) (fun _ _ _ h => h) (Or.inl ⟨by rfl, ?_⟩) (by assumption) ?_
  rotate_left
  · intro w hSw; (try dsimp only at hSw); go_simp; (try with_reducible rfl)
  try simp only [Act.put, List.setIfInBounds_toArray, List.set_cons_zero, List.set_cons_succ]
  refine wpAnyH_ready (rs := [4]) (by kernel_rfl) (by simp) (AllReadyH.cons (o := ⟨some 7, _, _, _, _, _⟩) rfl (fun Kc hKc => ?_) AllReadyH.nil)
  go_simp
  go_at_call 86; refine (uword_x (some ad) n c l w _ HN.out HL.out 2 2 rfl (by omega) hn2 x1).mono ?_; rintro e v2 ⟨rfl, x2⟩
  clear hHeld
  refine hKc.out _ _ ?_ (fun hHeld => ?_)
  · (try dsimp only); exact Zu.below x2
  clear hKc Kc
  try simp only [Act.put, List.setIfInBounds_toArray, List.set_cons_zero, List.set_cons_succ]
  refine wpAnyH_take (i := 5) (oi := ⟨some 8, _, _, _, _, _⟩) (v := ?_) rfl (by kernel_rfl) (by kernel_rfl) (by kernel_rfl) (fun _ _ _ h => h) (Or.inl ⟨by rfl, ?_⟩) (by assumption) ?_
  rotate_left
  · intro w hSw; (try dsimp only at hSw); go_simp; (try with_reducible rfl)
  try simp only [Act.put, List.setIfInBounds_toArray, List.set_cons_zero, List.set_cons_succ]
  refine wpAnyH_ready (rs := [7]) (by kernel_rfl) (by simp) (AllReadyH.cons (o := ⟨some 10, _, _, _, _, _⟩) rfl (fun Kc hKc => ?_) AllReadyH.nil)
  go_simp
  go_at_call 86; refine (uword_x (some ad) n c l w _ HN.out HL.out 6 6 rfl (by omega) hn2 x2).mono ?_; rintro e v3 ⟨rfl, x3⟩
  clear hHeld
  refine hKc.out _ _ ?_ (fun hHeld => ?_)
  · (try dsimp only); exact Zu.below x3
  clear hKc Kc
  try simp only [Act.put, List.setIfInBounds_toArray, List.set_cons_zero, List.set_cons_succ]
  refine wpAnyH_take (i := 8) (oi := ⟨some 11, _, _, _, _, _⟩) (v := ?_) rfl (by kernel_rfl) (by kernel_rfl) (by kernel_rfl) (fun _ _ _ h => h) (Or.inl ⟨by rfl, ?_⟩) (by assumption) ?_
  rotate_left
  · intro w hSw; (try dsimp only at hSw); go_simp; (try with_reducible rfl)
  try simp only [Act.put, List.setIfInBounds_toArray, List.set_cons_zero, List.set_cons_succ]
  refine wpAnyH_ready (rs := [11]) (by kernel_rfl) (by simp) (AllReadyH.cons (o := ⟨some 14, _, _, _, _, _⟩) rfl (fun Kc hKc => ?_) AllReadyH.nil)
  go_simp
  go_at_call 83; refine (cclone _ (n - 8) (c - 8) (l.drop 8) w.heap.size _ HDL.out (HDB.out.below (Zu.below x3)) (Zu.below x3).size (by omega) HDN.out (by omega)).mono ?_; rintro e w3 ⟨Ab, cb, rfl, hg3⟩; have x4 : Below (w.heap.size + 1) (Zu w) w3 := x3.trans (hg3.below.mono (Zu.size x3)); obtain ⟨⟨z0, z1, z2, z3⟩, zf⟩ := zu_of x4
  clear hHeld
  refine hKc.out _ _ ?_ (fun hHeld => ?_)
  · (try dsimp only); exact Zu.below x4
  clear hKc Kc
  try simp only [Act.put, List.setIfInBounds_toArray, List.set_cons_zero, List.set_cons_succ]
  refine wpAnyH_take (i := 12) (oi := ⟨some 15, _, _, _, _, _⟩) (v := ?_) rfl (by kernel_rfl) (by kernel_rfl) (by kernel_rfl) (fun _ _ _ h => h) (Or.inl ⟨by rfl, ?_⟩) (by assumption) ?_
  rotate_left
  · intro w hSw; (try dsimp only at hSw); go_simp; (try with_reducible rfl)
  try simp only [Act.put, List.setIfInBounds_toArray, List.set_cons_zero, List.set_cons_succ]
  refine wpAnyH_ready (rs := [13]) (by kernel_rfl) (by simp) (AllReadyH.cons (o := ⟨none, _, _, _, _, _⟩) rfl (fun Kc hKc => ?_) AllReadyH.nil)
  go_simp
  have yF := below_s4U (Zu.below x4) (Nat.le_refl _) (.int .i64 (wd l 0)) (.int .i64 (wd l 2)) (.bool (wd l 6 == 0)) (.slice Ab (n - 8) cb)
  clear hHeld
  refine hKc.out _ _ ?_ (fun hHeld => ?_)
  · (try dsimp only); exact yF
  clear hKc Kc
  try simp only [Act.put, List.setIfInBounds_toArray, List.set_cons_zero, List.set_cons_succ]
  refine wpAnyH_done (by kernel_rfl) ?_ _
  have HV : (.agg #[.int .i64 (wd l 0), .int .i64 (wd l 2), .bool (wd l 6 == 0), .slice Ab (n - 8) cb] : Value) = udV (rdU l) Ab cb := by
    have e1 := HDL.out
    rw [← e1]
    rfl
  have HV' := Go.Lib.hid HV
  clear HV
  have HG : Hid (ReadU w (set4U w3 w.heap.size (.int .i64 (wd l 0)) (.int .i64 (wd l 2)) (.bool (wd l 6 == 0)) (.slice Ab (n - 8) cb)) (rdU l) Ab cb) := by
    have s3 := Zu.size x3
    refine Go.Lib.hid ⟨⟨hg3.len, hg3.cap, hg3.nil, ?_⟩, yF, fun ad e => Nat.le_of_lt (Nat.lt_of_lt_of_le (Nat.lt_succ_self _) (Nat.le_trans s3 (hg3.fresh ad e)))⟩
    rw [size_s4U]
    exact bs_s4U hg3.bs (fun ad e => Nat.lt_of_lt_of_le (Nat.lt_succ_self _) (Nat.le_trans s3 (hg3.fresh ad e))) _ _ _ _
  clear hg3 yF x4 x3 x2 x1 x0 hHeld
  go_wp2
  all_goals
    refine bodyPost_ret (v := udV (rdU l) Ab cb) ?_ rfl ⟨Ab, cb, rfl, HG.out⟩
    rw [← HV'.out]
    simp [results, Try.results72, go_sem, z0, z1, z2, z3]
theorem uread_x (A : Option Addr) (n c : Nat) (l : List UInt8) (w : World) (hn : l.length = n) (h : Bs w w.heap.size A l) (hn2 : n ≤ 16777216) (h8 : 8 ≤ n) (hnc : n ≤ c) (hc63 : c ≤ 9223372036854775807) (x0 x2 : Int) (vn : Bool) (N : Nat) (h0 : wd l 0 = x0) (h2 : wd l 2 = x2) (hv : (wd l 6 == 0) = vn) (hN : n - 8 = N) :
    Calls Try.prog 72 #[.slice A n c] w fun e w' => ∃ Ab cb, e = .returned (.agg #[.int .i64 x0, .int .i64 x2, .bool vn, .slice Ab N cb]) ∧ ReadU w w' ⟨x0, x2, vn, l.drop 8⟩ Ab cb := by
  subst h0 h2 hv hN
  refine (uread A n c l w hn h hn2 h8 hnc hc63).mono ?_
  rintro e w' ⟨Ab, cb, he, hg⟩
  refine ⟨Ab, cb, ?_, hg⟩
  rw [he, udV, show (rdU l).body.length = n - 8 by unfold rdU; rw [List.length_drop, hn]]
  rfl
end Go.Proofs.Ytmgkkgpdnopeaaa
