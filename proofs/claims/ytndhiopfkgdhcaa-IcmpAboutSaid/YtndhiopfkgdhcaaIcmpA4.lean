/- The contract of package icmp's Parse. -/
import Derived.Deep.RegionHeld3
import Derived.Test.YtndhiopfkgdhcaaIcmpA3
import Derived.Test.YtndhiopfkgdhcaaClone
import Derived.Test.YtndhiopfkgdhcaaEqual
namespace Go.Proofs.Ytndhiopfkgdhcaa
open Go.ChangeShapes Go.WideShapes Go.ChangeAt Go.RowKit
set_option linter.unusedVariables false
set_option linter.unusedSimpArgs false

theorem iword_y (A : Option Addr) (n c : Nat) (l : List UInt8) (B : Nat) (Y : World) (hn : l.length = n) (h : Bs Y B A l) (k : Nat) (ki : Int) (hki : ki = (k : Int)) (hk : k + 1 < n) (hn2 : n ≤ 16777216) (v : Int) (hv : wd l k = v) :
    Calls Try.prog 38 #[.slice A n c, .int .i64 ki] Y fun e w' => e = .returned (.int .u16 v) ∧ ∃ m, w' = Y.drewN m :=
  hv ▸ iword A n c l B Y hn h k ki hki hk hn2
theorem iword_x (A : Option Addr) (n c : Nat) (l : List UInt8) (w Y : World) (hn : l.length = n) (h : Bs w w.heap.size A l) (k : Nat) (ki : Int) (hki : ki = (k : Int)) (hk : k + 1 < n) (hn2 : n ≤ 16777216) (v : Int) (hv : wd l k = v) (y : Below (w.heap.size + 1) (Zi w) Y) :
    Calls Try.prog 38 #[.slice A n c, .int .i64 ki] Y fun e w' => e = .returned (.int .u16 v) ∧ Below (w.heap.size + 1) (Zi w) w' :=
  (iword_y A n c l w.heap.size Y hn (h.below (Zi.below y)) k ki hki hk hn2 v hv).mono fun _ _ ⟨a, m, b⟩ => ⟨a, b ▸ below_dn y m⟩

set_option maxRecDepth 100000 in
set_option maxHeartbeats 8000000 in
theorem iparse (A : Option Addr) (n c : Nat) (l : List UInt8) (w : World) (hn : l.length = n) (h : Bs w w.heap.size A l) (hn2 : n ≤ 16777216) (hnc : n ≤ c) (hc2 : c ≤ 9223372036854775807) :
    Calls Try.prog 19 #[.slice A n c] w (ParsedI w (prsI l)) := by
  obtain ⟨⟨z0, z1, z2, z3⟩, zf⟩ := zi_of (show Below (w.heap.size + 1) (Zi w) (Zi w) from Below.refl _ _)
  have b0 := Zi.below (show Below (w.heap.size + 1) (Zi w) (Zi w) from Below.refl _ _)
  by_cases h2 : n < 8
  · have HP : Hid (prsI l = (2, Ic.empty)) := Go.Lib.hid (by unfold prsI; rw [if_pos (by omega)])
    clear h hn
    go_enter Try.func19, Try.ntmps19
    go_upto_region 1 with fail
    rw [zi_is]
    generalize Zi w = W at *
    go_wp2
    refine bodyPost_ret (v := .tuple #[.agg #[.int .i64 0, .int .i64 0, .int .u32 0, .slice none 0 0], .int .i64 2]) ?_ rfl (parsedI_err HP.out rfl ?_)
    · simp [results, Try.results19, go_sem, z0, z1, z2, z3]
    · exact below_s4 b0 (Nat.le_refl _) _ _ _ _
  by_cases h3 : (65535 : Int) < (n : Int)
  · have HP : Hid (prsI l = (4, Ic.empty)) := Go.Lib.hid (by unfold prsI; rw [if_neg (by omega), if_pos (by omega)])
    clear h hn
    go_enter Try.func19, Try.ntmps19
    go_upto_region 1 with fail
    rw [zi_is]
    generalize Zi w = W at *
    go_wp2
    refine bodyPost_ret (v := .tuple #[.agg #[.int .i64 0, .int .i64 0, .int .u32 0, .slice none 0 0], .int .i64 4]) ?_ rfl (parsedI_err HP.out rfl ?_)
    · simp [results, Try.results19, go_sem, z0, z1, z2, z3]
    · exact below_s4 b0 (Nat.le_refl _) _ _ _ _
  obtain ⟨ad, rfl, hlt, hcell⟩ := g8_cells h (by omega)
  have C0 := hcell 0 (by omega)
  have C1 := hcell 1 (by omega)
  rw [add_zero] at C0
  rw [add_pos ad 1 (by omega)] at C1
  have x00 := g8_lo l 0
  have x01 := g8_hi l 0
  have x10 := g8_lo l 1
  have x11 := g8_hi l 1
  have y40 := wd_lo l 4
  have y41 := wd_hi l 4
  have y60 := wd_lo l 6
  have y61 := wd_hi l 6
  have HN := Go.Lib.hid hn
  have HB := Go.Lib.hid h
  have h8 : 8 ≤ n := by omega
  have n65 : n ≤ 65535 := by omega
  have HP : Hid (prsI l = if fo (tot l) ≠ 65535 then (5, Ic.empty) else (0, ⟨g8 l 0, g8 l 1, wd l 4 * 65536 + wd l 6, l.drop 8⟩)) := Go.Lib.hid (by unfold prsI; rw [if_neg (by omega), if_neg (by omega)]; rfl)
  have HDL : Hid ((l.drop 8).length = n - 8) := Go.Lib.hid (by rw [List.length_drop, hn])
  have HC : Hid (Bs w w.heap.size (if c = 8 then (some ad : Option Addr) else some { block := ad.block, off := ad.off + 8 }) (l.drop 8)) := Go.Lib.hid (by
    have := h.cut 8 c (by omega) (by omega)
    simpa using this)
  have HCN : Hid ((if c = 8 then (some ad : Option Addr) else some { block := ad.block, off := ad.off + 8 }) = none → c - 8 = 0) := Go.Lib.hid (by split <;> (intro h; cases h))
  have i00 : 0 < n := by omega
  have i01 : (1 : Int) < (n : Int) := by omega
  have i8 : (8 : Int) ≤ (c : Int) := by omega
  have i9 : (8 : Int) ≤ (n : Int) := by omega
  obtain ⟨y4, q4⟩ : ∃ y4 : Int, wd l 4 = y4 := ⟨_, rfl⟩
  obtain ⟨y6, q6⟩ : ∃ y6 : Int, wd l 6 = y6 := ⟨_, rfl⟩
  rw [q4] at y40 y41 HP
  rw [q6] at y60 y61 HP
  have Q4 := Go.Lib.hid q4
  have Q6 := Go.Lib.hid q6
  generalize g8 l 0 = x0 at *
  generalize g8 l 1 = x1 at *
  clear h hn hcell q4 q6
  go_enter Try.func19, Try.ntmps19
  go_upto_region 1 with fail
  have x1z : Below (w.heap.size + 1) (Zi w) (Zi w) := Below.refl _ _
  have sz := Zi.size x1z
  rw [zi_is]
  generalize hW : Zi w = W at *
  go_wp2_with fail
  refine (csum_n (some ad) n c l w.heap.size _ HN.out (HB.out.below b0) hn2 hnc hc2).mono ?_
  rintro e w0 ⟨rfl, m0, rfl⟩
  dsimp only
  have x1z := below_dn x1z m0
  obtain ⟨⟨z0, z1, z2, z3⟩, zf⟩ := zi_of (w := w) (by rw [hW]; exact x1z)
  have b0 := below_dn b0 m0
  have s0 : w.heap.size + 1 ≤ (W.drewN m0).heap.size := Nat.le_trans sz x1z.size
  generalize W.drewN m0 = w1 at *
  by_cases hS : fo (tot l) = 65535
  · have HP0 : Hid (prsI l = (0, ⟨x0, x1, y4 * 65536 + y6, l.drop 8⟩)) := Go.Lib.hid (by rw [HP.out, if_neg (by simpa using hS)])
    rw [hS]
    have x1z : Below (w.heap.size + 1) (Zi w) w1 := by rw [hW]; exact x1z
    have C0' := (b0.cell (p := ad) hlt).trans C0
    have C1' := (b0.cell (p := ⟨ad.block, ad.off + 1, none⟩) hlt).trans C1
    clear hS HP z0 z1 z2 z3 zf
    have hwor := u32_or16 y4 y6 y40 y41 y60 y61
    have e0 := IntWalk.i64_in x0 (by omega)
    have e1 := IntWalk.i64_in x1 (by omega)
    have e4 := IntWalk.u32_in y4 (by omega)
    have e6 := IntWalk.u32_in y6 (by omega)
    have e5 := IntWalk.u32_in (y4 * 65536) (by omega)
    have K : ∀ Y, Below (w.heap.size + 1) (Zi w) Y → Y.cell? ad = some (.int .u8 x0) ∧ Y.cell? ⟨ad.block, ad.off + 1, none⟩ = some (.int .u8 x1) ∧ Below w.heap.size w Y := fun Y y => ⟨((Zi.below y).cell (p := ad) hlt).trans C0, ((Zi.below y).cell (p := ⟨ad.block, ad.off + 1, none⟩) hlt).trans C1, Zi.below y⟩
    have K2 : ∀ (Y : World) (a b c d : Value), (Y.cell? ad = some (.int .u8 x0) ∧ Y.cell? ⟨ad.block, ad.off + 1, none⟩ = some (.int .u8 x1) ∧ Below w.heap.size w Y) → (set4 Y w.heap.size a b c d).cell? ad = some (.int .u8 x0) ∧ (set4 Y w.heap.size a b c d).cell? ⟨ad.block, ad.off + 1, none⟩ = some (.int .u8 x1) ∧ Below w.heap.size w (set4 Y w.heap.size a b c d) := fun Y a b c d ⟨k0, k1, k4⟩ => by
      have hh : ∀ (Z : World) (p : Addr) (k : Nat) (u : Value), p.block ≠ w.heap.size → (Z.setCell ⟨w.heap.size, k, none⟩ u).cell? p = Z.cell? p := fun Z p k u hp => World.cell?_setCell_other Z _ _ u (fun e => hp (by first | (rw [e]; done) | rw [← e]))
      have n1 : ad.block ≠ w.heap.size := Nat.ne_of_lt hlt
      refine ⟨?_, ?_, below_s4 k4 (Nat.le_refl _) _ _ _ _⟩
      · rw [hh _ _ _ _ n1, hh _ _ _ _ n1, hh _ _ _ _ n1, hh _ _ _ _ n1]; exact k0
      · rw [hh _ ⟨ad.block, ad.off + 1, none⟩ _ _ n1, hh _ ⟨ad.block, ad.off + 1, none⟩ _ _ n1, hh _ ⟨ad.block, ad.off + 1, none⟩ _ _ n1, hh _ ⟨ad.block, ad.off + 1, none⟩ _ _ n1]; exact k1
    have x1d : Below (w.heap.size + 1) (Zi w) w1.drew := below_drew x1z
    clear hW
    go_upto_region 7 with fail
    try simp only [List.append_eq, List.cons_append, List.nil_append]
    refine wp_region_held_drew (S := (fun Y => Y.cell? ad = some (.int .u8 x0) ∧ Y.cell? ⟨ad.block, ad.off + 1, none⟩ = some (.int .u8 x1) ∧ Below w.heap.size w Y)) (by kernel_rfl) ?_ (fun hHeld => ?_)
    · exact K _ x1d
    refine wpAnyH_take (i := 0) (oi := ⟨some 16, _, _, _, _, _⟩) (v := ?_) rfl (by kernel_rfl) (by kernel_rfl) (by kernel_rfl) (fun _ _ _ h => h) (Or.inl ⟨by rfl, ?_⟩) (by assumption) ?_
    rotate_left
    · intro w hSw; (try dsimp only at hSw); go_simp; (try with_reducible rfl)
    try simp only [Act.put, List.setIfInBounds_toArray, List.set_cons_zero, List.set_cons_succ]
    refine wpAnyH_take (i := 1) (oi := ⟨some 17, _, _, _, _, _⟩) (v := ?_) rfl (by kernel_rfl) (by kernel_rfl) (by kernel_rfl) (fun _ _ _ h => h) (Or.inl ⟨by rfl, ?_⟩) (by assumption) ?_
    rotate_left
    · intro w hSw; (try dsimp only at hSw); go_simp; (try with_reducible rfl)
    try simp only [Act.put, List.setIfInBounds_toArray, List.set_cons_zero, List.set_cons_succ]
    refine wpAnyH_take (i := 2) (oi := ⟨some 18, _, _, _, _, _⟩) (v := ?_) rfl (by kernel_rfl) (by kernel_rfl) (by kernel_rfl) (fun _ _ _ h => h) (Or.inl ⟨by rfl, ?_⟩) (by assumption) ?_
    rotate_left
    · intro w hSw; (try dsimp only at hSw); go_simp; (try with_reducible rfl)
    try simp only [Act.put, List.setIfInBounds_toArray, List.set_cons_zero, List.set_cons_succ]
    refine wpAnyH_take (i := 3) (oi := ⟨some 19, _, _, _, _, _⟩) (v := ?_) rfl (by kernel_rfl) (by kernel_rfl) (by kernel_rfl) (fun _ _ _ h => h) (Or.inl ⟨by rfl, ?_⟩) (by assumption) ?_
    rotate_left
    · intro w hSw; (try dsimp only at hSw); go_simp; (try with_reducible rfl)
    try simp only [Act.put, List.setIfInBounds_toArray, List.set_cons_zero, List.set_cons_succ]
    refine wpAnyH_take (i := 4) (oi := ⟨some 20, _, _, _, _, _⟩) (v := ?_) rfl (by kernel_rfl) (by kernel_rfl) (by kernel_rfl) (fun _ _ _ h => h) (Or.inl ⟨by rfl, ?_⟩) (by assumption) ?_
    rotate_left
    · intro w hSw; (try dsimp only at hSw); go_simp; (try with_reducible rfl)
    try simp only [Act.put, List.setIfInBounds_toArray, List.set_cons_zero, List.set_cons_succ]
    refine wpAnyH_take (i := 5) (oi := ⟨some 21, _, _, _, _, _⟩) (v := ?_) rfl (by kernel_rfl) (by kernel_rfl) (by kernel_rfl) (fun _ _ _ h => h) (Or.inl ⟨by rfl, ?_⟩) (by assumption) ?_
    rotate_left
    · intro w hSw; (try dsimp only at hSw); go_simp; (try with_reducible rfl)
    try simp only [Act.put, List.setIfInBounds_toArray, List.set_cons_zero, List.set_cons_succ]
    refine wpAnyH_take (i := 6) (oi := ⟨some 22, _, _, _, _, _⟩) (v := ?_) rfl (by kernel_rfl) (by kernel_rfl) (by kernel_rfl) (fun _ _ _ h => h) (Or.inl ⟨by rfl, ?_⟩) (by assumption) ?_
    rotate_left
    · intro w hSw; (try dsimp only at hSw); go_simp; (try with_reducible rfl)
    try simp only [Act.put, List.setIfInBounds_toArray, List.set_cons_zero, List.set_cons_succ]
    refine wpAnyH_take (i := 7) (oi := ⟨some 23, _, _, _, _, _⟩) (v := ?_) rfl (by kernel_rfl) (by kernel_rfl) (by kernel_rfl) (fun _ _ _ h => h) (Or.inl ⟨by rfl, ?_⟩) (by assumption) ?_
    rotate_left
    · intro w hSw; (try dsimp only at hSw); go_simp; (try with_reducible rfl)
    try simp only [Act.put, List.setIfInBounds_toArray, List.set_cons_zero, List.set_cons_succ]
    refine wpAnyH_take (i := 8) (oi := ⟨some 24, _, _, _, _, _⟩) (v := ?_) rfl (by kernel_rfl) (by kernel_rfl) (by kernel_rfl) (fun _ _ _ h => h) (Or.inl ⟨by rfl, ?_⟩) (by assumption) ?_
    rotate_left
    · intro w hSw; (try dsimp only at hSw); go_simp; (try with_reducible rfl)
    try simp only [Act.put, List.setIfInBounds_toArray, List.set_cons_zero, List.set_cons_succ]
    refine wpAnyH_take (i := 12) (oi := ⟨some 28, _, _, _, _, _⟩) (v := ?_) rfl (by kernel_rfl) (by kernel_rfl) (by kernel_rfl) (fun _ _ _ h => h) (Or.inl ⟨by rfl, ?_⟩) (by assumption) ?_
    rotate_left
    · intro w hSw; (try dsimp only at hSw); go_simp; (try with_reducible rfl)
    try simp only [Act.put, List.setIfInBounds_toArray, List.set_cons_zero, List.set_cons_succ]
    refine wpAnyH_take (i := 16) (oi := ⟨some 32, _, _, _, _, _⟩) (v := ?_) rfl (by kernel_rfl) (by kernel_rfl) (by kernel_rfl) (fun _ _ _ h => h) (Or.inl ⟨by rfl, ?_⟩) (by assumption) ?_
    rotate_left
    · intro w hSw; (try dsimp only at hSw); go_simp; (try with_reducible rfl)
    try simp only [Act.put, List.setIfInBounds_toArray, List.set_cons_zero, List.set_cons_succ]
    refine wpAnyH_take (i := 17) (oi := ⟨some 33, _, _, _, _, _⟩) (v := ?_) rfl (by kernel_rfl) (by kernel_rfl) (by kernel_rfl) (fun _ _ _ h => h) (Or.inl ⟨by rfl, ?_⟩) (by assumption) ?_
    rotate_left
    · intro w hSw; (try dsimp only at hSw); go_simp; (try with_reducible rfl)
    try simp only [Act.put, List.setIfInBounds_toArray, List.set_cons_zero, List.set_cons_succ]
    refine wpAnyH_ready (rs := [9]) (by kernel_rfl) (by simp) (AllReadyH.cons (o := ⟨some 25, _, _, _, _, _⟩) rfl (fun Kc hKc => ?_) AllReadyH.nil)
    go_simp
    go_at_call 38; refine (iword_x (some ad) n c l w _ HN.out HB.out 4 4 rfl (by omega) hn2 y4 Q4.out x1d).mono ?_; rintro e v1 ⟨rfl, q1⟩
    clear hHeld
    refine hKc.out _ _ ?_ (fun hHeld => ?_)
    · (try dsimp only); exact K _ q1
    clear hKc Kc
    try simp only [Act.put, List.setIfInBounds_toArray, List.set_cons_zero, List.set_cons_succ]
    refine wpAnyH_take (i := 10) (oi := ⟨some 26, _, _, _, _, _⟩) (v := ?_) rfl (by kernel_rfl) (by kernel_rfl) (by kernel_rfl) (fun _ _ _ h => h) (Or.inl ⟨by rfl, ?_⟩) (by assumption) ?_
    rotate_left
    · intro w hSw; (try dsimp only at hSw); go_simp; (try with_reducible rfl)
    try simp only [Act.put, List.setIfInBounds_toArray, List.set_cons_zero, List.set_cons_succ]
    refine wpAnyH_take (i := 11) (oi := ⟨some 27, _, _, _, _, _⟩) (v := ?_) rfl (by kernel_rfl) (by kernel_rfl) (by kernel_rfl) (fun _ _ _ h => h) (Or.inl ⟨by rfl, ?_⟩) (by assumption) ?_
    rotate_left
    · intro w hSw; (try dsimp only at hSw); go_simp; (try with_reducible rfl)
    try simp only [Act.put, List.setIfInBounds_toArray, List.set_cons_zero, List.set_cons_succ]
    refine wpAnyH_ready (rs := [13]) (by kernel_rfl) (by simp) (AllReadyH.cons (o := ⟨some 29, _, _, _, _, _⟩) rfl (fun Kc hKc => ?_) AllReadyH.nil)
    go_simp
    go_at_call 38; refine (iword_x (some ad) n c l w _ HN.out HB.out 6 6 rfl (by omega) hn2 y6 Q6.out q1).mono ?_; rintro e v2 ⟨rfl, q2⟩
    clear hHeld
    refine hKc.out _ _ ?_ (fun hHeld => ?_)
    · (try dsimp only); exact K _ q2
    clear hKc Kc
    try simp only [Act.put, List.setIfInBounds_toArray, List.set_cons_zero, List.set_cons_succ]
    refine wpAnyH_take (i := 14) (oi := ⟨some 30, _, _, _, _, _⟩) (v := ?_) rfl (by kernel_rfl) (by kernel_rfl) (by kernel_rfl) (fun _ _ _ h => h) (Or.inl ⟨by rfl, ?_⟩) (by assumption) ?_
    rotate_left
    · intro w hSw; (try dsimp only at hSw); go_simp; (try with_reducible rfl)
    try simp only [Act.put, List.setIfInBounds_toArray, List.set_cons_zero, List.set_cons_succ]
    refine wpAnyH_take (i := 15) (oi := ⟨some 31, _, _, _, _, _⟩) (v := ?_) rfl (by kernel_rfl) (by kernel_rfl) (by kernel_rfl) (fun _ _ _ h => h) (Or.inl ⟨by rfl, ?_⟩) (by assumption) ?_
    rotate_left
    · intro w hSw; (try dsimp only at hSw); go_simp; (try with_reducible rfl)
    try simp only [Act.put, List.setIfInBounds_toArray, List.set_cons_zero, List.set_cons_succ]
    refine wpAnyH_ready (rs := [18]) (by kernel_rfl) (by simp) (AllReadyH.cons (o := ⟨some 34, _, _, _, _, _⟩) rfl (fun Kc hKc => ?_) AllReadyH.nil)
    go_simp
    go_at_call 39; refine (cclone _ (n - 8) (c - 8) (l.drop 8) w.heap.size _ HDL.out (HC.out.below (Zi.below q2)) (Zi.below q2).size (by omega) HCN.out (by omega)).mono ?_; rintro e w3 ⟨A7, c7, rfl, hg3⟩; have q3 : Below (w.heap.size + 1) (Zi w) w3 := q2.trans (hg3.below.mono (Zi.size q2)); have f7 : ∀ ad, A7 = some ad → w.heap.size < ad.block := (fun ad e => Nat.lt_of_lt_of_le (Nat.lt_succ_self _) (Nat.le_trans (Zi.size q2) (hg3.fresh ad e))); obtain ⟨⟨y0, y1, y2, y3⟩, zf⟩ := zi_of q3
    clear hHeld
    refine hKc.out _ _ ?_ (fun hHeld => ?_)
    · (try dsimp only); exact K _ q3
    clear hKc Kc
    try simp only [Act.put, List.setIfInBounds_toArray, List.set_cons_zero, List.set_cons_succ]
    refine wpAnyH_take (i := 19) (oi := ⟨some 35, _, _, _, _, _⟩) (v := ?_) rfl (by kernel_rfl) (by kernel_rfl) (by kernel_rfl) (fun _ _ _ h => h) (Or.inl ⟨by rfl, ?_⟩) (by assumption) ?_
    rotate_left
    · intro w hSw; (try dsimp only at hSw); go_simp; (try with_reducible rfl)
    try simp only [Act.put, List.setIfInBounds_toArray, List.set_cons_zero, List.set_cons_succ]
    refine wpAnyH_ready (rs := [20]) (by kernel_rfl) (by simp) (AllReadyH.cons (o := ⟨none, _, _, _, _, _⟩) rfl (fun Kc hKc => ?_) AllReadyH.nil)
    go_simp
    clear hHeld
    refine hKc.out _ _ ?_ (fun hHeld => ?_)
    · (try dsimp only); exact K2 _ _ _ _ _ (K _ q3)
    clear hKc Kc
    try simp only [Act.put, List.setIfInBounds_toArray, List.set_cons_zero, List.set_cons_succ]
    refine wpAnyH_take (i := 21) (oi := ⟨some 3, _, _, _, _, _⟩) (v := ?_) rfl (by kernel_rfl) (by kernel_rfl) (by kernel_rfl) (fun _ _ _ h => h) (Or.inl ⟨by rfl, ?_⟩) (by assumption) ?_
    rotate_left
    · intro w hSw; (try dsimp only at hSw); go_simp; (try with_reducible rfl)
    try simp only [Act.put, List.setIfInBounds_toArray, List.set_cons_zero, List.set_cons_succ]
    refine wpAnyH_done (by kernel_rfl) ?_ _
    have HF : Hid (GivesIc w (set4 w3 w.heap.size (.int .i64 x0) (.int .i64 x1) (.int .u32 (y4 * 65536 + y6)) (.slice A7 (n - 8) c7)) ⟨x0, x1, y4 * 65536 + y6, l.drop 8⟩ A7 c7) := Go.Lib.hid (gives_s4 ⟨by show 0 ≤ y4 * 65536 + y6; omega, by show y4 * 65536 + y6 ≤ 4294967295; omega, hg3.len, hg3.cap, hg3.nil, hg3.bs⟩ f7 (Zi.below q3) _ _ _ _)
    clear K K2 hg3 q1 q2 q3 f7 x1d
    go_wp2
    all_goals
      refine bodyPost_ret (v := .tuple #[.agg #[.int .i64 x0, .int .i64 x1, .int .u32 (y4 * 65536 + y6), .slice A7 (n - 8) c7], .int .i64 0]) ?_ rfl (parsedI_ok HP0.out (by rw [icV, HDL.out]) HF.out)
      simp [results, Try.results19, go_sem, y0, y1, y2, y3]
  · have HP5 : Hid (prsI l = (5, Ic.empty)) := Go.Lib.hid (by rw [HP.out, if_pos hS])
    have t2 : (fo (tot l) != 65535) = true := by simpa using hS
    clear hS HP x1z
    generalize fo (tot l) = s at *
    go_wp2
    refine bodyPost_ret (v := .tuple #[.agg #[.int .i64 0, .int .i64 0, .int .u32 0, .slice none 0 0], .int .i64 5]) ?_ rfl (parsedI_err HP5.out rfl ?_)
    · simp [results, Try.results19, go_sem, z0, z1, z2, z3]
    · exact below_s4 b0 (Nat.le_refl _) _ _ _ _

set_option maxRecDepth 100000 in
set_option maxHeartbeats 4000000 in
theorem isameI (m : Ic) (Ab : Option Addr) (cb : Nat) (v : Ic) (Ab' : Option Addr) (cb' : Nat) (B : Nat) (w : World) (hB : B ≤ w.heap.size) (hI : Bs w B Ab m.body) (hJ : Bs w B Ab' v.body) :
    Calls Try.prog 12 #[icV m Ab cb, icV v Ab' cb'] w fun e w' => e = .returned (.bool (sameI m v)) ∧ Below w.heap.size w w' := by
  have H1 := Go.Lib.hid hI
  have H2 := Go.Lib.hid hJ
  clear hI hJ
  unfold sameI
  go_enter Try.func12, Try.ntmps12
  go_wp2_with (go_at_call 35; refine (cequal Ab _ cb m.body Ab' _ cb' v.body B B _ rfl rfl (H1.out.below (by repeat (first | exact Below.refl _ _ | refine Below.alloc ?_ (by first | exact hB | (simp; omega)) _))) (H2.out.below (by repeat (first | exact Below.refl _ _ | refine Below.alloc ?_ (by first | exact hB | (simp; omega)) _)))).mono ?_; rintro e w' ⟨rfl, rfl⟩; dsimp only)
  all_goals (go_ret; refine ⟨ret_bool ?_, by repeat (first | exact Below.refl _ _ | refine Below.alloc ?_ (by simp) _)⟩)
  all_goals (simp [*]; done)
end Go.Proofs.Ytndhiopfkgdhcaa
