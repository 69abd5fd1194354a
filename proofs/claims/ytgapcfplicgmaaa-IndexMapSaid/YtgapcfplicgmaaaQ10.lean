/- Lemmas, several texts in one. -/
import Derived.Test.YtgapcfplicgmaaaQ09
/- Statements of layer 10, walked: behind any puts and deletes the table has what was put and not deleted. -/
namespace Go.Proofs.Ytgapcfplicgmaaa
open Go.ChangeShapes Go.WideShapes Go.ChangeAt Go.RowKit
set_option linter.unusedVariables false
set_option linter.unusedSimpArgs false

theorem MapM.hist {w wr : World} {N ct ch : Nat} {t H : List Cl} {At Ah : Option Addr} (h : MapM w N t H At ct Ah ch wr) : CsAt wr H Ah ch := h.own.at h.rng
theorem new_bad {pl : Int} {Q : List Cl} {f : Int} (h : newC pl = (Q, f)) : (f = 1 ∧ Q = []) ∨ (f = 0 ∧ ∃ N : Nat, pl = (N : Int) ∧ sizeC N = true ∧ Q = List.replicate N cl0) := by
  unfold newC at h
  split at h
  · rename_i q
    injection h with h1 h2
    exact .inr ⟨h2.symm, pl.toNat, by omega, q.2, h1.symm⟩
  · injection h with h1 h2
    exact .inl ⟨h2.symm, h1.symm⟩
set_option maxRecDepth 100000 in
set_option maxHeartbeats 32000000 in
theorem indexMap (kA0 : AwakeC10) (kN0 : NewC10) (kR0 : RightC10) (kL0 : LenC10) (kG0 : GetC10) (kP0 : PutC10) (kD0 : DelC10) (pl : Int) (L : List Cl) (A : Option Addr) (c : Nat) (w : World) (h : CsAt w L A c) :
    Calls Try.prog 4 #[.int .i64 pl, .slice A L.length c] w fun e w' => e = .returned (.bool true) ∧ Below w.heap.size w w' := by
  have kA := Go.Lib.hid kA0
  have kN := Go.Lib.hid kN0
  have kR := Go.Lib.hid kR0
  have kL := Go.Lib.hid kL0
  have kG := Go.Lib.hid kG0
  have kP := Go.Lib.hid kP0
  have kD := Go.Lib.hid kD0
  have HL := Go.Lib.hid h
  have hcap := h.cap
  have hlc := h.len
  have x0 : Below w.heap.size w w := Below.refl _ _
  clear kA0 kN0 kR0 kL0 kG0 kP0 kD0 h
  obtain ⟨i0, hi, hz0, hz1, hz2⟩ := info_parts info_stz
  go_enter Try.func4, Try.ntmps4
  by_cases hp64 : (64 : Int) < pl
  · go_wp2_with (go_at_call 7; refine (kA.out _).mono ?_; rintro e w1 ⟨rfl, y1⟩; have HL := Go.Lib.hid (HL.out.at y1); have x1 := x0.trans (y1.mono x0.size); dsimp only)
    go_ret
    exact ⟨rfl, x1⟩
  by_cases hl150 : (150 : Int) < (L.length : Int)
  · go_wp2_with (go_at_call 7; refine (kA.out _).mono ?_; rintro e w1 ⟨rfl, y1⟩; have HL := Go.Lib.hid (HL.out.at y1); have x1 := x0.trans (y1.mono x0.size); dsimp only)
    go_ret
    exact ⟨rfl, x1⟩
  obtain ⟨⟨Q, f⟩, hq0⟩ : ∃ q, newC pl = q := ⟨_, rfl⟩
  have hq := Go.Lib.hid hq0
  rcases new_bad hq0 with ⟨rfl, rfl⟩ | ⟨rfl, N, rfl, hsz, rfl⟩
  · have hl0 : Hid (([], (1 : Int)).1.length = (0 : Nat) ) := Go.Lib.hid (rfl : ([] : List Cl).length = 0)
    clear hq0
    go_wp2_with (first
      | (go_at_call 7; refine (kA.out _).mono ?_; rintro e w1 ⟨rfl, y1⟩; have HL := Go.Lib.hid (HL.out.at y1); have x1 := x0.trans (y1.mono x0.size); dsimp only)
      | (go_at_call 8; refine (kN.out pl w1 ([], 1) hq.out).mono ?_; intro e w2 hpf; obtain ⟨A2, c2, rfl, hc2, y2⟩ := hpf.n (N := 0) rfl; have x2 := x1.trans (y2.mono x1.size); clear hc2 hpf; dsimp only))
    go_ret
    exact ⟨rfl, x2⟩
  · have hN0 : 0 < N := by have := sizeC_pos hsz; omega
    have hN64 : N ≤ 64 := by omega
    have HSZ := Go.Lib.hid hsz
    have hln : Hid ((List.replicate N cl0, (0 : Int)).1.length = N) := Go.Lib.hid (by simp)
    clear hq0 hsz
    go_upto_region 8 with (first
      | (go_at_call 7; refine (kA.out _).mono ?_; rintro e w1 ⟨rfl, y1⟩; have HL := Go.Lib.hid (HL.out.at y1); have x1 := x0.trans (y1.mono x0.size); dsimp only)
      | (go_at_call 8; refine (kN.out (N : Int) w1 (List.replicate N cl0, 0) hq.out).mono ?_; intro e w2 hpf; obtain ⟨A2, c2, rfl, hc2, y2⟩ := hpf.n hln.out; have H2 := Go.Lib.hid hc2; have HL := Go.Lib.hid (HL.out.at y2); have x2 := x1.trans (y2.mono x1.size); clear hc2 hpf; dsimp only))
    have HM0 : Hid (MapM w2 N (List.replicate N cl0) [] A2 c2 none 0 w2) := Go.Lib.hid ⟨hln.out, H2.out, OwnS.none_ _ _, (fun c hc => by cases hc), (fun ad _ hb => by cases hb), Below.refl _ _⟩
    clear x0 x1 y1 y2 H2
    go_wp2_with fail
    go_loopw [5, 7, 8] (fun tv hv iv wr => ∃ (i : Nat) (t H : List Cl) (At : Option Addr) (ct : Nat) (Ah : Option Addr) (ch : Nat), i ≤ L.length ∧ tv = .slice At N ct ∧ hv = .slice Ah H.length ch ∧ iv = .int .i64 i ∧ H.length ≤ i ∧ MapI t H ∧ MapM w2 N t H At ct Ah ch wr) (fun _ _ iv _ => L.length - (intOf iv).toNat)
    case atStart => exact ⟨0, _, [], A2, c2, none, 0, by omega, rfl, rfl, rfl, Nat.le_refl _, MapI.new HSZ.out, HM0.out⟩
    case round =>
      rename World => wo
      clear HM0
      obtain ⟨i, t, H, At, ct, Ah, ch, hiL, rfl, rfl, rfl, hHi, hmi, hmm⟩ := hrel
      have y1 := hmm.below
      have HMI := Go.Lib.hid hmi
      have HMM := Go.Lib.hid hmm
      have i00 : (0 : Int) ≤ (i : Int) := by omega
      clear hmi hmm
      by_cases hil : i < L.length
      · have hil' : (i : Int) < (L.length : Int) := by omega
        obtain ⟨adL, rfl, hcL⟩ := HL.out.cell hil
        have rx := HL.out.rng i
        obtain ⟨x, hx⟩ : ∃ x, atC L i = x := ⟨_, rfl⟩
        rw [hx] at hcL rx
        have rx := Go.Lib.hid rx
        clear hx
        go_upto_region 14 with fail
        go_wp2_with fail
        go_loopw [9, 10] (fun av kv wr => ∃ k : Nat, k ≤ H.length ∧ av = .int .i64 (posK (H.take k) x.key) ∧ kv = .int .i64 k ∧ Below wo.heap.size wo wr) (fun _ kv _ => H.length - (intOf kv).toNat)
        case atStart => exact ⟨0, by omega, rfl, rfl, Below.refl _ _⟩
        case round =>
          rename World => wq
          obtain ⟨k, hk, rfl, rfl, y2⟩ := hrel
          have k0 : (0 : Int) ≤ (k : Int) := by omega
          by_cases hkl : k < H.length
          · have hkl' : (k : Int) < (H.length : Int) := by omega
            obtain ⟨ad, rfl, hcA⟩ := HMM.out.hist.cell hkl
            obtain ⟨a, hac⟩ : ∃ a, atC H k = a := ⟨_, rfl⟩
            rw [hac] at hcA
            have HAC := Go.Lib.hid hac
            have e1 : IntKind.i64.wrap ((k : Int) + 1) = (k : Int) + 1 := IntWalk.i64_in _ (by omega)
            clear hac
            go_upto_region 16 with fail
            cases hke : sameTp a.key x.key
            · have eqv := fun W => (eqTp a.key x.key W).trans (by rw [hke])
              have HPS : Hid (Value.int .i64 (posK (H.take k) x.key) = .int .i64 (posK (H.take (k + 1)) x.key)) := Go.Lib.hid (by rw [pos_step HMI.out.once hkl, ← atC_get hkl, HAC.out, hke, if_neg (by decide)])
              try simp only [Act.put, List.setIfInBounds_toArray, List.set_cons_zero, List.set_cons_succ]
              refine wp_region_held_drew (S := fun Y => Below wq.heap.size wq Y) (by kernel_rfl) ?_ (fun hHeld => ?_)
              · exact below_drew (Below.refl _ _)
              refine wpAnyH_take (i := 0) (oi := ⟨some 49, _, _, _, _, _⟩) (v := ?_) rfl (by kernel_rfl) (by kernel_rfl) (by kernel_rfl) (fun _ _ _ h => h) (Or.inl ⟨by rfl, ?_⟩) (by assumption) ?_
              rotate_left
              · intro w hSw; (try dsimp only at hSw); go_simp; (try with_reducible rfl)
              try simp only [Act.put, List.setIfInBounds_toArray, List.set_cons_zero, List.set_cons_succ]
              refine wpAnyH_take (i := 1) (oi := ⟨some 50, _, _, _, _, _⟩) (v := ?_) rfl (by kernel_rfl) (by kernel_rfl) (by kernel_rfl) (fun _ _ _ h => h) (Or.inl ⟨by rfl, ?_⟩) (by assumption) ?_
              rotate_left
              · intro w hSw; (try dsimp only at hSw); go_simp; (try with_reducible rfl)
              try simp only [Act.put, List.setIfInBounds_toArray, List.set_cons_zero, List.set_cons_succ]
              refine wpAnyH_take (i := 2) (oi := ⟨some 51, _, _, _, _, _⟩) (v := ?_) rfl (by kernel_rfl) (by kernel_rfl) (by kernel_rfl) (fun _ _ _ h => h) (Or.inl ⟨by rfl, ?_⟩) (by assumption) ?_
              rotate_left
              · intro w hSw; (try dsimp only at hSw); go_simp; (try with_reducible rfl)
              try simp only [Act.put, List.setIfInBounds_toArray, List.set_cons_zero, List.set_cons_succ]
              refine wpAnyH_take (i := 3) (oi := ⟨some 52, _, _, _, _, _⟩) (v := ?_) rfl (by kernel_rfl) (by kernel_rfl) (by kernel_rfl) (fun _ _ _ h => h) (Or.inl ⟨by rfl, ?_⟩) (by assumption) ?_
              rotate_left
              · intro w hSw; (try dsimp only at hSw); go_simp; (try with_reducible rfl)
              try simp only [Act.put, List.setIfInBounds_toArray, List.set_cons_zero, List.set_cons_succ]
              refine wpAnyH_take (i := 4) (oi := ⟨some 53, _, _, _, _, _⟩) (v := (tpV a.key)) rfl (by kernel_rfl) (by kernel_rfl) (by kernel_rfl) (fun _ _ _ h => h) (yieldsIf_load_at (by rfl) 25 _ rfl ((ad.add (k * 7)).add 1) rfl (tpL a.key) _ (fun Y h => key_cells (hcA Y (y2.trans (h.mono y2.size)))) Try.underlying25 rfl info_tp) (by assumption) ?_
              try simp only [Act.put, List.setIfInBounds_toArray, List.set_cons_zero, List.set_cons_succ]
              refine wpAnyH_take (i := 5) (oi := ⟨some 54, _, _, _, _, _⟩) (v := ?_) rfl (by kernel_rfl) (by kernel_rfl) (by kernel_rfl) (fun _ _ _ h => h) (Or.inl ⟨by rfl, ?_⟩) (by assumption) ?_
              rotate_left
              · intro w hSw; (try dsimp only at hSw); go_simp; (try with_reducible rfl)
              try simp only [Act.put, List.setIfInBounds_toArray, List.set_cons_zero, List.set_cons_succ]
              refine wpAnyH_take (i := 6) (oi := ⟨some 55, _, _, _, _, _⟩) (v := ?_) rfl (by kernel_rfl) (by kernel_rfl) (by kernel_rfl) (fun _ _ _ h => h) (Or.inl ⟨by rfl, ?_⟩) (by assumption) ?_
              rotate_left
              · intro w hSw; (try dsimp only at hSw); go_simp; (try with_reducible rfl)
              try simp only [Act.put, List.setIfInBounds_toArray, List.set_cons_zero, List.set_cons_succ]
              refine wpAnyH_take (i := 7) (oi := ⟨some 56, _, _, _, _, _⟩) (v := ?_) rfl (by kernel_rfl) (by kernel_rfl) (by kernel_rfl) (fun _ _ _ h => h) (Or.inl ⟨by rfl, ?_⟩) (by assumption) ?_
              rotate_left
              · intro w hSw; (try dsimp only at hSw); go_simp; (try with_reducible rfl)
              try simp only [Act.put, List.setIfInBounds_toArray, List.set_cons_zero, List.set_cons_succ]
              refine wpAnyH_take (i := 8) (oi := ⟨some 57, _, _, _, _, _⟩) (v := ?_) rfl (by kernel_rfl) (by kernel_rfl) (by kernel_rfl) (fun _ _ _ h => h) (Or.inl ⟨by rfl, ?_⟩) (by assumption) ?_
              rotate_left
              · intro w hSw; (try dsimp only at hSw); go_simp; (try with_reducible rfl)
              try simp only [Act.put, List.setIfInBounds_toArray, List.set_cons_zero, List.set_cons_succ]
              refine wpAnyH_take (i := 9) (oi := ⟨some 58, _, _, _, _, _⟩) (v := (tpV x.key)) rfl (by kernel_rfl) (by kernel_rfl) (by kernel_rfl) (fun _ _ _ h => h) (yieldsIf_load_at (by rfl) 25 _ rfl ((adL.add (i * 7)).add 1) rfl (tpL x.key) _ (fun Y h => key_cells (hcL Y (y1.trans ((y2.trans (h.mono y2.size)).mono y1.size)))) Try.underlying25 rfl info_tp) (by assumption) ?_
              try simp only [Act.put, List.setIfInBounds_toArray, List.set_cons_zero, List.set_cons_succ]
              refine wpAnyH_take (i := 10) (oi := ⟨some 59, _, _, _, _, _⟩) (v := ?_) rfl (by kernel_rfl) (by kernel_rfl) (by kernel_rfl) (fun _ _ _ h => h) (Or.inl ⟨by rfl, ?_⟩) (by assumption) ?_
              rotate_left
              · intro w hSw; (try dsimp only at hSw); go_simp; (try with_reducible rfl)
              try simp only [Act.put, List.setIfInBounds_toArray, List.set_cons_zero, List.set_cons_succ]
              refine wpAnyH_done (by kernel_rfl) ?_ _
              have yq := hHeld
              clear hHeld
              go_wp2
              go_round
              case rel => exact ⟨k + 1, by omega, HPS.out, by go_num, y2.trans (yq.mono y2.size)⟩
              case measure => simp [intOf]; omega
            · have eqv := fun W => (eqTp a.key x.key W).trans (by rw [hke])
              have HPS : Hid (Value.int .i64 (k : Int) = .int .i64 (posK (H.take (k + 1)) x.key)) := Go.Lib.hid (by rw [pos_step HMI.out.once hkl, ← atC_get hkl, HAC.out, hke, if_pos rfl])
              try simp only [Act.put, List.setIfInBounds_toArray, List.set_cons_zero, List.set_cons_succ]
              refine wp_region_held_drew (S := fun Y => Below wq.heap.size wq Y) (by kernel_rfl) ?_ (fun hHeld => ?_)
              · exact below_drew (Below.refl _ _)
              refine wpAnyH_take (i := 0) (oi := ⟨some 49, _, _, _, _, _⟩) (v := ?_) rfl (by kernel_rfl) (by kernel_rfl) (by kernel_rfl) (fun _ _ _ h => h) (Or.inl ⟨by rfl, ?_⟩) (by assumption) ?_
              rotate_left
              · intro w hSw; (try dsimp only at hSw); go_simp; (try with_reducible rfl)
              try simp only [Act.put, List.setIfInBounds_toArray, List.set_cons_zero, List.set_cons_succ]
              refine wpAnyH_take (i := 1) (oi := ⟨some 50, _, _, _, _, _⟩) (v := ?_) rfl (by kernel_rfl) (by kernel_rfl) (by kernel_rfl) (fun _ _ _ h => h) (Or.inl ⟨by rfl, ?_⟩) (by assumption) ?_
              rotate_left
              · intro w hSw; (try dsimp only at hSw); go_simp; (try with_reducible rfl)
              try simp only [Act.put, List.setIfInBounds_toArray, List.set_cons_zero, List.set_cons_succ]
              refine wpAnyH_take (i := 2) (oi := ⟨some 51, _, _, _, _, _⟩) (v := ?_) rfl (by kernel_rfl) (by kernel_rfl) (by kernel_rfl) (fun _ _ _ h => h) (Or.inl ⟨by rfl, ?_⟩) (by assumption) ?_
              rotate_left
              · intro w hSw; (try dsimp only at hSw); go_simp; (try with_reducible rfl)
              try simp only [Act.put, List.setIfInBounds_toArray, List.set_cons_zero, List.set_cons_succ]
              refine wpAnyH_take (i := 3) (oi := ⟨some 52, _, _, _, _, _⟩) (v := ?_) rfl (by kernel_rfl) (by kernel_rfl) (by kernel_rfl) (fun _ _ _ h => h) (Or.inl ⟨by rfl, ?_⟩) (by assumption) ?_
              rotate_left
              · intro w hSw; (try dsimp only at hSw); go_simp; (try with_reducible rfl)
              try simp only [Act.put, List.setIfInBounds_toArray, List.set_cons_zero, List.set_cons_succ]
              refine wpAnyH_take (i := 4) (oi := ⟨some 53, _, _, _, _, _⟩) (v := (tpV a.key)) rfl (by kernel_rfl) (by kernel_rfl) (by kernel_rfl) (fun _ _ _ h => h) (yieldsIf_load_at (by rfl) 25 _ rfl ((ad.add (k * 7)).add 1) rfl (tpL a.key) _ (fun Y h => key_cells (hcA Y (y2.trans (h.mono y2.size)))) Try.underlying25 rfl info_tp) (by assumption) ?_
              try simp only [Act.put, List.setIfInBounds_toArray, List.set_cons_zero, List.set_cons_succ]
              refine wpAnyH_take (i := 5) (oi := ⟨some 54, _, _, _, _, _⟩) (v := ?_) rfl (by kernel_rfl) (by kernel_rfl) (by kernel_rfl) (fun _ _ _ h => h) (Or.inl ⟨by rfl, ?_⟩) (by assumption) ?_
              rotate_left
              · intro w hSw; (try dsimp only at hSw); go_simp; (try with_reducible rfl)
              try simp only [Act.put, List.setIfInBounds_toArray, List.set_cons_zero, List.set_cons_succ]
              refine wpAnyH_take (i := 6) (oi := ⟨some 55, _, _, _, _, _⟩) (v := ?_) rfl (by kernel_rfl) (by kernel_rfl) (by kernel_rfl) (fun _ _ _ h => h) (Or.inl ⟨by rfl, ?_⟩) (by assumption) ?_
              rotate_left
              · intro w hSw; (try dsimp only at hSw); go_simp; (try with_reducible rfl)
              try simp only [Act.put, List.setIfInBounds_toArray, List.set_cons_zero, List.set_cons_succ]
              refine wpAnyH_take (i := 7) (oi := ⟨some 56, _, _, _, _, _⟩) (v := ?_) rfl (by kernel_rfl) (by kernel_rfl) (by kernel_rfl) (fun _ _ _ h => h) (Or.inl ⟨by rfl, ?_⟩) (by assumption) ?_
              rotate_left
              · intro w hSw; (try dsimp only at hSw); go_simp; (try with_reducible rfl)
              try simp only [Act.put, List.setIfInBounds_toArray, List.set_cons_zero, List.set_cons_succ]
              refine wpAnyH_take (i := 8) (oi := ⟨some 57, _, _, _, _, _⟩) (v := ?_) rfl (by kernel_rfl) (by kernel_rfl) (by kernel_rfl) (fun _ _ _ h => h) (Or.inl ⟨by rfl, ?_⟩) (by assumption) ?_
              rotate_left
              · intro w hSw; (try dsimp only at hSw); go_simp; (try with_reducible rfl)
              try simp only [Act.put, List.setIfInBounds_toArray, List.set_cons_zero, List.set_cons_succ]
              refine wpAnyH_take (i := 9) (oi := ⟨some 58, _, _, _, _, _⟩) (v := (tpV x.key)) rfl (by kernel_rfl) (by kernel_rfl) (by kernel_rfl) (fun _ _ _ h => h) (yieldsIf_load_at (by rfl) 25 _ rfl ((adL.add (i * 7)).add 1) rfl (tpL x.key) _ (fun Y h => key_cells (hcL Y (y1.trans ((y2.trans (h.mono y2.size)).mono y1.size)))) Try.underlying25 rfl info_tp) (by assumption) ?_
              try simp only [Act.put, List.setIfInBounds_toArray, List.set_cons_zero, List.set_cons_succ]
              refine wpAnyH_take (i := 10) (oi := ⟨some 59, _, _, _, _, _⟩) (v := ?_) rfl (by kernel_rfl) (by kernel_rfl) (by kernel_rfl) (fun _ _ _ h => h) (Or.inl ⟨by rfl, ?_⟩) (by assumption) ?_
              rotate_left
              · intro w hSw; (try dsimp only at hSw); go_simp; (try with_reducible rfl)
              try simp only [Act.put, List.setIfInBounds_toArray, List.set_cons_zero, List.set_cons_succ]
              refine wpAnyH_done (by kernel_rfl) ?_ _
              have yq := hHeld
              clear hHeld
              go_wp2
              go_round
              case rel => exact ⟨k + 1, by omega, HPS.out, by go_num, y2.trans (yq.mono y2.size)⟩
              case measure => simp [intOf]; omega
          · obtain rfl : k = H.length := by omega
            have hkl' : ¬ (H.length : Int) < (H.length : Int) := by omega
            have hpa : posK (H.take H.length) x.key = posK H x.key := by rw [List.take_length]
            rw [hpa]
            clear hpa k0
            have HMQ := Go.Lib.hid (HMM.out.call y2)
            have HT := Go.Lib.hid HMM.out.len
            have zc := hcL wq (y1.trans (y2.mono y1.size)) 0 _ rfl
            rw [add_add, Nat.add_zero] at zc
            have hcL6 : ∀ Y : World, Below w2.heap.size w2 Y → Y.cell? (adL.add (i * 7 + 6)) = some (.int .i64 x.num) := fun Y yy => by have q := hcL Y yy 6 _ rfl; rw [add_add] at q; exact q
            go_upto_if 65 with fail
            clear zc
            go_cut [5, 7] (fun tv hv wx => ∃ (t2 H2 : List Cl) (A2 : Option Addr) (c2 : Nat) (B2 : Option Addr) (d2 : Nat), tv = .slice A2 N c2 ∧ hv = .slice B2 H2.length d2 ∧ H2.length ≤ i + 1 ∧ MapI t2 H2 ∧ MapM w2 N t2 H2 A2 c2 B2 d2 wx)
            case first =>
              cases hus : x.used
              · clear hus
                rcases del_cases t x.key with ⟨f, p1, p2⟩ | ⟨T, p1, p2⟩
                · have hp := Go.Lib.hid p1
                  have hneg := HMI.out.del_no p1 p2
                  have LT : Hid ((t, f).1.length = N) := HT
                  have e0 : (f == 0) = false := by rcases p2 with rfl | rfl <;> rfl
                  have hge : ¬ (0 : Int) ≤ posK H x.key := by omega
                  clear p1 p2 hneg
                  generalize posK H x.key = pa at *
                  go_wp2_with (first
                                | (refine wpList_load_at rfl 25 _ rfl ((adL.add (i * 7)).add 1) rfl (tpL x.key) _ (key_cells (hcL wq (y1.trans (y2.mono y1.size)))) Try.underlying25 rfl info_tp ?_)
                                | (go_at_call 19; refine (kD.out t At ct N x.key wq (t, f) HT.out HMQ.out.tab (by omega) rx.out hp.out).mono ?_; intro e w4 hpf; obtain ⟨A4, c4, rfl, hc4, y4, fr4⟩ := hpf.nf LT.out; have HM4 := Go.Lib.hid (HMQ.out.table y4 hc4 LT.out fr4); clear hc4 hpf fr4; dsimp only))
                  go_meet
                  exact ⟨t, H, A4, c4, Ah, ch, rfl, rfl, by omega, HMI.out, HM4.out⟩
                · have hp := Go.Lib.hid p1
                  obtain ⟨p, hpl, hpe, hm2⟩ := HMI.out.del p2
                  have LT : Hid ((T, (0 : Int)).1.length = N) := Go.Lib.hid (p2.len.trans HT.out)
                  have HM2 := Go.Lib.hid hm2
                  generalize posK H x.key = pa at *
                  subst hpe
                  have hge : (0 : Int) ≤ (p : Int) := by omega
                  have hge1 : (0 : Int) ≤ (p : Int) + 1 := by omega
                  have hple : (p : Int) ≤ (H.length : Int) := by omega
                  have hple2 : (p : Int) + 1 ≤ (H.length : Int) := by omega
                  have s5 : IntKind.i64.wrap ((p : Int) + 1) = (p : Int) + 1 := IntWalk.i64_in _ (by omega)
                  clear p1 p2 hm2
                  go_upto_region 31 with (first
                                           | (refine wpList_load_at rfl 25 _ rfl ((adL.add (i * 7)).add 1) rfl (tpL x.key) _ (key_cells (hcL wq (y1.trans (y2.mono y1.size)))) Try.underlying25 rfl info_tp ?_)
                                           | (go_at_call 19; refine (kD.out t At ct N x.key wq (T, 0) HT.out HMQ.out.tab (by omega) rx.out hp.out).mono ?_; intro e w4 hpf; obtain ⟨A4, c4, rfl, hc4, y4, fr4⟩ := hpf.nf LT.out; have HM4 := Go.Lib.hid (HMQ.out.table y4 hc4 LT.out fr4); clear hc4 hpf fr4; dsimp only))
                  obtain ⟨adh, hAh⟩ : ∃ adh, Ah = some adh := by
                    rcases own_addr HM4.out.own with ⟨_, hz, _⟩ | ⟨g, hg, _⟩
                    · omega
                    · exact ⟨_, hg⟩
                  subst hAh
                  have hcap := HM4.out.own.cap
                  have hpch : (p : Int) ≤ (ch : Int) := by omega
                  have hpch2 : (H.length : Int) ≤ (ch : Int) := by omega
                  have HFI := Go.Lib.hid (HM4.out.own.first p)
                  obtain ⟨ad4, hif, hla⟩ := HM4.out.own.last hpl
                  have HLA := Go.Lib.hid hla
                  have HLT : Hid (((H.take p).flatMap Cl.L).length = p * 7) := Go.Lib.hid (by rw [flat_len Cl.L 7 Cl.len, List.length_take, Nat.min_eq_left (by omega)])
                  have HLD : Hid (((H.drop (p + 1)).flatMap Cl.L).length = (H.length - (p + 1)) * 7) := Go.Lib.hid (by rw [flat_len Cl.L 7 Cl.len, List.length_drop])
                  clear hla
                  try simp only [Act.put, List.setIfInBounds_toArray, List.set_cons_zero, List.set_cons_succ]
                  refine wp_region_held_drew (S := fun Y => Below w4.heap.size w4 Y) (by kernel_rfl) ?_ (fun hHeld => ?_)
                  · exact below_drew (Below.refl _ _)
                  refine wpAnyH_take (i := 1) (oi := ⟨some 116, _, _, _, _, _⟩) (v := ?_) rfl (by kernel_rfl) (by kernel_rfl) (by kernel_rfl) (fun _ _ _ h => h) (Or.inl ⟨by rfl, ?_⟩) (by assumption) ?_
                  rotate_left
                  · intro w hSw; (try dsimp only at hSw); go_simp; (try with_reducible rfl)
                  try simp only [Act.put, List.setIfInBounds_toArray, List.set_cons_zero, List.set_cons_succ]
                  refine wpAnyH_take (i := 2) (oi := ⟨some 117, _, _, _, _, _⟩) (v := ?_) rfl (by kernel_rfl) (by kernel_rfl) (by kernel_rfl) (fun _ _ _ h => h) (Or.inl ⟨by rfl, ?_⟩) (by assumption) ?_
                  rotate_left
                  · intro w hSw; (try dsimp only at hSw); go_simp; (try with_reducible rfl)
                  try simp only [Act.put, List.setIfInBounds_toArray, List.set_cons_zero, List.set_cons_succ]
                  refine wpAnyH_take (i := 3) (oi := ⟨some 118, _, _, _, _, _⟩) (v := ?_) rfl (by kernel_rfl) (by kernel_rfl) (by kernel_rfl) (fun _ _ _ h => h) (Or.inl ⟨by rfl, ?_⟩) (by assumption) ?_
                  rotate_left
                  · intro w hSw; (try dsimp only at hSw); go_simp; (try with_reducible rfl)
                  try simp only [Act.put, List.setIfInBounds_toArray, List.set_cons_zero, List.set_cons_succ]
                  refine wpAnyH_take (i := 5) (oi := ⟨some 120, _, _, _, _, _⟩) (v := ?_) rfl (by kernel_rfl) (by kernel_rfl) (by kernel_rfl) (fun _ _ _ h => h) (Or.inl ⟨by rfl, ?_⟩) (by assumption) ?_
                  rotate_left
                  · intro w hSw; (try dsimp only at hSw); go_simp; (try with_reducible rfl)
                  try simp only [Act.put, List.setIfInBounds_toArray, List.set_cons_zero, List.set_cons_succ]
                  refine wpAnyH_take (i := 6) (oi := ⟨some 121, _, _, _, _, _⟩) (v := ?_) rfl (by kernel_rfl) (by kernel_rfl) (by kernel_rfl) (fun _ _ _ h => h) (Or.inl ⟨by rfl, ?_⟩) (by assumption) ?_
                  rotate_left
                  · intro w hSw; (try dsimp only at hSw); go_simp; (try with_reducible rfl)
                  try simp only [Act.put, List.setIfInBounds_toArray, List.set_cons_zero, List.set_cons_succ]
                  refine wpAnyH_take (i := 7) (oi := ⟨some 122, _, _, _, _, _⟩) (v := ?_) rfl (by kernel_rfl) (by kernel_rfl) (by kernel_rfl) (fun _ _ _ h => h) (Or.inl ⟨by rfl, ?_⟩) (by assumption) ?_
                  rotate_left
                  · intro w hSw; (try dsimp only at hSw); go_simp; (try with_reducible rfl)
                  try simp only [Act.put, List.setIfInBounds_toArray, List.set_cons_zero, List.set_cons_succ]
                  refine wpAnyH_take (i := 8) (oi := ⟨some 123, _, _, _, _, _⟩) (v := ?_) rfl (by kernel_rfl) (by kernel_rfl) (by kernel_rfl) (fun _ _ _ h => h) (Or.inl ⟨by rfl, ?_⟩) (by assumption) ?_
                  rotate_left
                  · intro w hSw; (try dsimp only at hSw); go_simp; (try with_reducible rfl)
                  try simp only [Act.put, List.setIfInBounds_toArray, List.set_cons_zero, List.set_cons_succ]
                  refine wpAnyH_ready (rs := [0]) (by kernel_rfl) (by simp) (AllReadyH.cons (o := ⟨some 115, _, _, _, _, _⟩) rfl (fun Kc hKc => ?_) AllReadyH.nil)
                  go_simp
                  have V20 : Hid (World.ownsRow (w4.alloc (.cells #[] 44)).drew w4.heap.size 44 7 (.slice (some ⟨w4.heap.size, 0, none⟩) 0 0) 0 []) := Go.Lib.hid (World.ownsRow_made w4 #[] 0 (Nat.le_refl _) (by unfold maxLen; omega) (by simp)); have y20 : Below w4.heap.size w4 (w4.alloc (.cells #[] 44)).drew := below_drew ((Below.refl _ _).alloc (Nat.le_refl _) _); generalize (w4.alloc (.cells #[] 44)).drew = w20 at *; have z20 := y20.size
                  refine hKc.out _ _ (y20) (fun hHeld => ?_)
                  clear hKc Kc
                  try simp only [Act.put, List.setIfInBounds_toArray, List.set_cons_zero, List.set_cons_succ]
                  refine wpAnyH_ready (rs := [4]) (by kernel_rfl) (by simp) (AllReadyH.cons (o := ⟨some 119, _, _, _, _, _⟩) rfl (fun Kc hKc => ?_) AllReadyH.nil)
                  rw [if_pos (by rfl)]
                  refine step_appendS _ _ 42 rfl w4.heap.size 44 i0 _ 7 56 Try.underlying42 hi hz0 hz1 hz2 rfl (by omega) (.slice (some ⟨w4.heap.size, 0, none⟩) 0 0) 0 [] rfl V20.out adh p ch ((H.take p).flatMap Cl.L) rfl HLT.out (HFI.out w20 y20) (cl_one _) (by unfold maxLen; omega) (by omega) z20 ?_; intro v21 w21 ho21 hg21 hat21; obtain ⟨A21, c21, rfl⟩ := own_slice ho21; have y21 := y20.trans (grownS hg21 (fun g e => by rw [ownBlock_blk] at e; injection e with e; have e : w4.heap.size = g := e; omega) z20); have HO21 := Go.Lib.hid ho21; clear ho21 hg21 hat21; have z21 := y21.size
                  refine hKc.out _ _ (y21) (fun hHeld => ?_)
                  clear hKc Kc
                  try simp only [Act.put, List.setIfInBounds_toArray, List.set_cons_zero, List.set_cons_succ]
                  refine wpAnyH_ready (rs := [9]) (by kernel_rfl) (by simp) (AllReadyH.cons (o := ⟨some 124, _, _, _, _, _⟩) rfl (fun Kc hKc => ?_) AllReadyH.nil)
                  rw [if_pos (by rfl)]
                  (try rw [hif]); refine step_appendS _ _ 42 rfl w4.heap.size 44 i0 _ 7 56 Try.underlying42 hi hz0 hz1 hz2 rfl (by omega) (.slice A21 (0 + p) c21) (0 + p) ([] ++ (H.take p).flatMap Cl.L) rfl HO21.out ad4 (H.length - (p + 1)) (ch - (p + 1)) ((H.drop (p + 1)).flatMap Cl.L) rfl HLD.out (HLA.out w21 y21) (cl_one _) (by unfold maxLen; omega) (by omega) z21 ?_; intro v22 w22 ho22 hg22 hat22; obtain ⟨A22, c22, rfl⟩ := own_slice ho22; have y22 := y21.trans (grownS hg22 (fun g e => by rw [ownBlock_blk] at e; rcases own_addr HO21.out with ⟨hn, _⟩ | ⟨g2, hg2, h1, h2⟩; rw [hn] at e; cases e; rw [hg2] at e; injection e with e; have e : g2 = g := e; omega) z21); have HM22 := Go.Lib.hid (HM4.out.cut hN0 y22 (own_restS hpl ho22)); clear ho22 hg22 hat22
                  refine hKc.out _ _ (y22) (fun hHeld => ?_)
                  clear hKc Kc
                  try simp only [Act.put, List.setIfInBounds_toArray, List.set_cons_zero, List.set_cons_succ]
                  refine wpAnyH_take (i := 10) (oi := ⟨some 7, _, _, _, _, _⟩) (v := ?_) rfl (by kernel_rfl) (by kernel_rfl) (by kernel_rfl) (fun _ _ _ h => h) (Or.inl ⟨by rfl, ?_⟩) (by assumption) ?_
                  rotate_left
                  · intro w hSw; (try dsimp only at hSw); go_simp; (try with_reducible rfl)
                  try simp only [Act.put, List.setIfInBounds_toArray, List.set_cons_zero, List.set_cons_succ]
                  refine wpAnyH_done (by kernel_rfl) ?_ _
                  have HLX : Hid ((H.take p ++ H.drop (p + 1)).length = p + (H.length - (p + 1))) := Go.Lib.hid (by rw [List.length_append, List.length_take, List.length_drop]; omega)
                  clear hHeld
                  go_wp2_with fail
                  go_meet
                  exact ⟨T, H.take p ++ H.drop (p + 1), A4, c4, A22, c22, rfl, by first | (rw [HLX.out]; done) | (rw [HLX.out, Nat.zero_add]), by rw [HLX.out]; omega, HM2.out, HM22.out⟩
              · clear hus
                rcases put_cases t x.key x.num with ⟨f, p1, p2⟩ | ⟨T, p1, p2⟩
                · have hp := Go.Lib.hid p1
                  have hio := HMI.out.put_no p1 p2
                  have LT : Hid ((t, f).1.length = N) := HT
                  have e10 : (f == 10) = decide (0 ≤ posK H x.key) := by
                    rw [Bool.eq_iff_iff]
                    simpa using hio
                  have e0 : (f == 0) = false := by rcases p2 with rfl | rfl | rfl <;> rfl
                  clear p1 p2 hio
                  generalize posK H x.key = pa at *
                  go_upto_region 19 with fail
                  try simp only [Act.put, List.setIfInBounds_toArray, List.set_cons_zero, List.set_cons_succ]
                  refine wp_region_held_drew (S := fun Y => Below wq.heap.size wq Y) (by kernel_rfl) ?_ (fun hHeld => ?_)
                  · exact below_drew (Below.refl _ _)
                  refine wpAnyH_take (i := 0) (oi := ⟨some 67, _, _, _, _, _⟩) (v := ?_) rfl (by kernel_rfl) (by kernel_rfl) (by kernel_rfl) (fun _ _ _ h => h) (Or.inl ⟨by rfl, ?_⟩) (by assumption) ?_
                  rotate_left
                  · intro w hSw; (try dsimp only at hSw); go_simp; (try with_reducible rfl)
                  try simp only [Act.put, List.setIfInBounds_toArray, List.set_cons_zero, List.set_cons_succ]
                  refine wpAnyH_take (i := 1) (oi := ⟨some 68, _, _, _, _, _⟩) (v := ?_) rfl (by kernel_rfl) (by kernel_rfl) (by kernel_rfl) (fun _ _ _ h => h) (Or.inl ⟨by rfl, ?_⟩) (by assumption) ?_
                  rotate_left
                  · intro w hSw; (try dsimp only at hSw); go_simp; (try with_reducible rfl)
                  try simp only [Act.put, List.setIfInBounds_toArray, List.set_cons_zero, List.set_cons_succ]
                  refine wpAnyH_take (i := 2) (oi := ⟨some 69, _, _, _, _, _⟩) (v := ?_) rfl (by kernel_rfl) (by kernel_rfl) (by kernel_rfl) (fun _ _ _ h => h) (Or.inl ⟨by rfl, ?_⟩) (by assumption) ?_
                  rotate_left
                  · intro w hSw; (try dsimp only at hSw); go_simp; (try with_reducible rfl)
                  try simp only [Act.put, List.setIfInBounds_toArray, List.set_cons_zero, List.set_cons_succ]
                  refine wpAnyH_take (i := 3) (oi := ⟨some 70, _, _, _, _, _⟩) (v := ?_) rfl (by kernel_rfl) (by kernel_rfl) (by kernel_rfl) (fun _ _ _ h => h) (Or.inl ⟨by rfl, ?_⟩) (by assumption) ?_
                  rotate_left
                  · intro w hSw; (try dsimp only at hSw); go_simp; (try with_reducible rfl)
                  try simp only [Act.put, List.setIfInBounds_toArray, List.set_cons_zero, List.set_cons_succ]
                  refine wpAnyH_take (i := 4) (oi := ⟨some 71, _, _, _, _, _⟩) (v := ?_) rfl (by kernel_rfl) (by kernel_rfl) (by kernel_rfl) (fun _ _ _ h => h) (Or.inl ⟨by rfl, ?_⟩) (by assumption) ?_
                  rotate_left
                  · intro w hSw; (try dsimp only at hSw); go_simp; (try with_reducible rfl)
                  try simp only [Act.put, List.setIfInBounds_toArray, List.set_cons_zero, List.set_cons_succ]
                  refine wpAnyH_take (i := 5) (oi := ⟨some 72, _, _, _, _, _⟩) (v := (tpV x.key)) rfl (by kernel_rfl) (by kernel_rfl) (by kernel_rfl) (fun _ _ _ h => h) (yieldsIf_load_at (by rfl) 25 _ rfl ((adL.add (i * 7)).add 1) rfl (tpL x.key) _ (fun Y h => key_cells (hcL Y (y1.trans ((y2.trans (h.mono y2.size)).mono y1.size)))) Try.underlying25 rfl info_tp) (by assumption) ?_
                  try simp only [Act.put, List.setIfInBounds_toArray, List.set_cons_zero, List.set_cons_succ]
                  refine wpAnyH_take (i := 6) (oi := ⟨some 73, _, _, _, _, _⟩) (v := ?_) rfl (by kernel_rfl) (by kernel_rfl) (by kernel_rfl) (fun _ _ _ h => h) (Or.inl ⟨by rfl, ?_⟩) (by assumption) ?_
                  rotate_left
                  · intro w hSw; (try dsimp only at hSw); go_simp; (try with_reducible rfl)
                  try simp only [Act.put, List.setIfInBounds_toArray, List.set_cons_zero, List.set_cons_succ]
                  refine wpAnyH_take (i := 7) (oi := ⟨some 74, _, _, _, _, _⟩) (v := ?_) rfl (by kernel_rfl) (by kernel_rfl) (by kernel_rfl) (fun _ _ _ h => h) (Or.inl ⟨by rfl, ?_⟩) (by assumption) ?_
                  rotate_left
                  · intro w hSw; (try dsimp only at hSw); go_simp; (try with_reducible rfl)
                  try simp only [Act.put, List.setIfInBounds_toArray, List.set_cons_zero, List.set_cons_succ]
                  refine wpAnyH_take (i := 8) (oi := ⟨some 75, _, _, _, _, _⟩) (v := ?_) rfl (by kernel_rfl) (by kernel_rfl) (by kernel_rfl) (fun _ _ _ h => h) (Or.inl ⟨by rfl, ?_⟩) (by assumption) ?_
                  rotate_left
                  · intro w hSw; (try dsimp only at hSw); go_simp; (try with_reducible rfl)
                  try simp only [Act.put, List.setIfInBounds_toArray, List.set_cons_zero, List.set_cons_succ]
                  refine wpAnyH_take (i := 9) (oi := ⟨some 76, _, _, _, _, _⟩) (v := ?_) rfl (by kernel_rfl) (by kernel_rfl) (by kernel_rfl) (fun _ _ _ h => h) (Or.inl ⟨by rfl, ?_⟩) (by assumption) ?_
                  rotate_left
                  · intro w hSw; (try dsimp only at hSw); go_simp; (try with_reducible rfl)
                  try simp only [Act.put, List.setIfInBounds_toArray, List.set_cons_zero, List.set_cons_succ]
                  refine wpAnyH_take (i := 10) (oi := ⟨some 77, _, _, _, _, _⟩) (v := ?_) rfl (by kernel_rfl) (by kernel_rfl) (by kernel_rfl) (fun _ _ _ h => h) (Or.inl ⟨by rfl, ?_⟩) (by assumption) ?_
                  rotate_left
                  · intro w hSw; have zn := at_off 6 (hcL6 _ (y1.trans ((y2.trans (hSw.mono y2.size)).mono y1.size))) (by omega); (try dsimp only at hSw); go_simp; (try with_reducible rfl)
                  try simp only [Act.put, List.setIfInBounds_toArray, List.set_cons_zero, List.set_cons_succ]
                  refine wpAnyH_ready (rs := [11]) (by kernel_rfl) (by simp) (AllReadyH.cons (o := ⟨some 78, _, _, _, _, _⟩) rfl (fun Kc hKc => ?_) AllReadyH.nil)
                  go_simp
                  have HMD := Go.Lib.hid (HMQ.out.call (show Below wq.heap.size wq wq.drew from below_drew (Below.refl _ _))); go_at_call 17; refine (kP.out t At ct N x.key x.num wq.drew (t, f) HT.out HMD.out.tab (by omega) rx.out hp.out).mono ?_; intro e w4 hpf; obtain ⟨A4, c4, rfl, hc4, y4, fr4⟩ := hpf.nf LT.out; have HM4 := Go.Lib.hid (HMD.out.table y4 hc4 LT.out fr4); clear hc4 hpf fr4; dsimp only
                  refine hKc.out _ _ (hHeld.trans (y4.mono hHeld.size)) (fun hHeld => ?_)
                  clear hKc Kc
                  try simp only [Act.put, List.setIfInBounds_toArray, List.set_cons_zero, List.set_cons_succ]
                  refine wpAnyH_take (i := 12) (oi := ⟨some 66, _, _, _, _, _⟩) (v := ?_) rfl (by kernel_rfl) (by kernel_rfl) (by kernel_rfl) (fun _ _ _ h => h) (Or.inl ⟨by rfl, ?_⟩) (by assumption) ?_
                  rotate_left
                  · intro w hSw; (try dsimp only at hSw); go_simp; (try with_reducible rfl)
                  try simp only [Act.put, List.setIfInBounds_toArray, List.set_cons_zero, List.set_cons_succ]
                  refine wpAnyH_take (i := 13) (oi := ⟨some 79, _, _, _, _, _⟩) (v := ?_) rfl (by kernel_rfl) (by kernel_rfl) (by kernel_rfl) (fun _ _ _ h => h) (Or.inl ⟨by rfl, ?_⟩) (by assumption) ?_
                  rotate_left
                  · intro w hSw; (try dsimp only at hSw); go_simp; (try with_reducible rfl)
                  try simp only [Act.put, List.setIfInBounds_toArray, List.set_cons_zero, List.set_cons_succ]
                  refine wpAnyH_take (i := 14) (oi := ⟨some 80, _, _, _, _, _⟩) (v := ?_) rfl (by kernel_rfl) (by kernel_rfl) (by kernel_rfl) (fun _ _ _ h => h) (Or.inl ⟨by rfl, ?_⟩) (by assumption) ?_
                  rotate_left
                  · intro w hSw; (try dsimp only at hSw); go_simp; (try with_reducible rfl)
                  try simp only [Act.put, List.setIfInBounds_toArray, List.set_cons_zero, List.set_cons_succ]
                  refine wpAnyH_take (i := 15) (oi := ⟨some 11, _, _, _, _, _⟩) (v := ?_) rfl (by kernel_rfl) (by kernel_rfl) (by kernel_rfl) (fun _ _ _ h => h) (Or.inl ⟨by rfl, ?_⟩) (by assumption) ?_
                  rotate_left
                  · intro w hSw; (try dsimp only at hSw); go_simp; (try with_reducible rfl)
                  try simp only [Act.put, List.setIfInBounds_toArray, List.set_cons_zero, List.set_cons_succ]
                  refine wpAnyH_take (i := 16) (oi := ⟨some 12, _, _, _, _, _⟩) (v := ?_) rfl (by kernel_rfl) (by kernel_rfl) (by kernel_rfl) (fun _ _ _ h => h) (Or.inl ⟨by rfl, ?_⟩) (by assumption) ?_
                  rotate_left
                  · intro w hSw; (try dsimp only at hSw); go_simp; (try with_reducible rfl)
                  try simp only [Act.put, List.setIfInBounds_toArray, List.set_cons_zero, List.set_cons_succ]
                  refine wpAnyH_done (by kernel_rfl) ?_ _
                  have y5 := hHeld
                  clear hHeld
                  go_wp2_with fail
                  go_meet
                  exact ⟨t, H, A4, c4, Ah, ch, rfl, rfl, by omega, HMI.out, HM4.out⟩
                · have hp := Go.Lib.hid p1
                  obtain ⟨hneg, hm2⟩ := HMI.out.put p2
                  have LT : Hid ((T, (0 : Int)).1.length = N) := Go.Lib.hid (p2.len.trans HT.out)
                  have HM2 := Go.Lib.hid hm2
                  have hge : ¬ (0 : Int) ≤ posK H x.key := by omega
                  clear p1 p2 hneg hm2
                  generalize posK H x.key = pa at *
                  go_upto_region 19 with fail
                  try simp only [Act.put, List.setIfInBounds_toArray, List.set_cons_zero, List.set_cons_succ]
                  refine wp_region_held_drew (S := fun Y => Below wq.heap.size wq Y) (by kernel_rfl) ?_ (fun hHeld => ?_)
                  · exact below_drew (Below.refl _ _)
                  refine wpAnyH_take (i := 0) (oi := ⟨some 67, _, _, _, _, _⟩) (v := ?_) rfl (by kernel_rfl) (by kernel_rfl) (by kernel_rfl) (fun _ _ _ h => h) (Or.inl ⟨by rfl, ?_⟩) (by assumption) ?_
                  rotate_left
                  · intro w hSw; (try dsimp only at hSw); go_simp; (try with_reducible rfl)
                  try simp only [Act.put, List.setIfInBounds_toArray, List.set_cons_zero, List.set_cons_succ]
                  refine wpAnyH_take (i := 1) (oi := ⟨some 68, _, _, _, _, _⟩) (v := ?_) rfl (by kernel_rfl) (by kernel_rfl) (by kernel_rfl) (fun _ _ _ h => h) (Or.inl ⟨by rfl, ?_⟩) (by assumption) ?_
                  rotate_left
                  · intro w hSw; (try dsimp only at hSw); go_simp; (try with_reducible rfl)
                  try simp only [Act.put, List.setIfInBounds_toArray, List.set_cons_zero, List.set_cons_succ]
                  refine wpAnyH_take (i := 2) (oi := ⟨some 69, _, _, _, _, _⟩) (v := ?_) rfl (by kernel_rfl) (by kernel_rfl) (by kernel_rfl) (fun _ _ _ h => h) (Or.inl ⟨by rfl, ?_⟩) (by assumption) ?_
                  rotate_left
                  · intro w hSw; (try dsimp only at hSw); go_simp; (try with_reducible rfl)
                  try simp only [Act.put, List.setIfInBounds_toArray, List.set_cons_zero, List.set_cons_succ]
                  refine wpAnyH_take (i := 3) (oi := ⟨some 70, _, _, _, _, _⟩) (v := ?_) rfl (by kernel_rfl) (by kernel_rfl) (by kernel_rfl) (fun _ _ _ h => h) (Or.inl ⟨by rfl, ?_⟩) (by assumption) ?_
                  rotate_left
                  · intro w hSw; (try dsimp only at hSw); go_simp; (try with_reducible rfl)
                  try simp only [Act.put, List.setIfInBounds_toArray, List.set_cons_zero, List.set_cons_succ]
                  refine wpAnyH_take (i := 4) (oi := ⟨some 71, _, _, _, _, _⟩) (v := ?_) rfl (by kernel_rfl) (by kernel_rfl) (by kernel_rfl) (fun _ _ _ h => h) (Or.inl ⟨by rfl, ?_⟩) (by assumption) ?_
                  rotate_left
                  · intro w hSw; (try dsimp only at hSw); go_simp; (try with_reducible rfl)
                  try simp only [Act.put, List.setIfInBounds_toArray, List.set_cons_zero, List.set_cons_succ]
                  refine wpAnyH_take (i := 5) (oi := ⟨some 72, _, _, _, _, _⟩) (v := (tpV x.key)) rfl (by kernel_rfl) (by kernel_rfl) (by kernel_rfl) (fun _ _ _ h => h) (yieldsIf_load_at (by rfl) 25 _ rfl ((adL.add (i * 7)).add 1) rfl (tpL x.key) _ (fun Y h => key_cells (hcL Y (y1.trans ((y2.trans (h.mono y2.size)).mono y1.size)))) Try.underlying25 rfl info_tp) (by assumption) ?_
                  try simp only [Act.put, List.setIfInBounds_toArray, List.set_cons_zero, List.set_cons_succ]
                  refine wpAnyH_take (i := 6) (oi := ⟨some 73, _, _, _, _, _⟩) (v := ?_) rfl (by kernel_rfl) (by kernel_rfl) (by kernel_rfl) (fun _ _ _ h => h) (Or.inl ⟨by rfl, ?_⟩) (by assumption) ?_
                  rotate_left
                  · intro w hSw; (try dsimp only at hSw); go_simp; (try with_reducible rfl)
                  try simp only [Act.put, List.setIfInBounds_toArray, List.set_cons_zero, List.set_cons_succ]
                  refine wpAnyH_take (i := 7) (oi := ⟨some 74, _, _, _, _, _⟩) (v := ?_) rfl (by kernel_rfl) (by kernel_rfl) (by kernel_rfl) (fun _ _ _ h => h) (Or.inl ⟨by rfl, ?_⟩) (by assumption) ?_
                  rotate_left
                  · intro w hSw; (try dsimp only at hSw); go_simp; (try with_reducible rfl)
                  try simp only [Act.put, List.setIfInBounds_toArray, List.set_cons_zero, List.set_cons_succ]
                  refine wpAnyH_take (i := 8) (oi := ⟨some 75, _, _, _, _, _⟩) (v := ?_) rfl (by kernel_rfl) (by kernel_rfl) (by kernel_rfl) (fun _ _ _ h => h) (Or.inl ⟨by rfl, ?_⟩) (by assumption) ?_
                  rotate_left
                  · intro w hSw; (try dsimp only at hSw); go_simp; (try with_reducible rfl)
                  try simp only [Act.put, List.setIfInBounds_toArray, List.set_cons_zero, List.set_cons_succ]
                  refine wpAnyH_take (i := 9) (oi := ⟨some 76, _, _, _, _, _⟩) (v := ?_) rfl (by kernel_rfl) (by kernel_rfl) (by kernel_rfl) (fun _ _ _ h => h) (Or.inl ⟨by rfl, ?_⟩) (by assumption) ?_
                  rotate_left
                  · intro w hSw; (try dsimp only at hSw); go_simp; (try with_reducible rfl)
                  try simp only [Act.put, List.setIfInBounds_toArray, List.set_cons_zero, List.set_cons_succ]
                  refine wpAnyH_take (i := 10) (oi := ⟨some 77, _, _, _, _, _⟩) (v := ?_) rfl (by kernel_rfl) (by kernel_rfl) (by kernel_rfl) (fun _ _ _ h => h) (Or.inl ⟨by rfl, ?_⟩) (by assumption) ?_
                  rotate_left
                  · intro w hSw; have zn := at_off 6 (hcL6 _ (y1.trans ((y2.trans (hSw.mono y2.size)).mono y1.size))) (by omega); (try dsimp only at hSw); go_simp; (try with_reducible rfl)
                  try simp only [Act.put, List.setIfInBounds_toArray, List.set_cons_zero, List.set_cons_succ]
                  refine wpAnyH_ready (rs := [11]) (by kernel_rfl) (by simp) (AllReadyH.cons (o := ⟨some 78, _, _, _, _, _⟩) rfl (fun Kc hKc => ?_) AllReadyH.nil)
                  go_simp
                  have HMD := Go.Lib.hid (HMQ.out.call (show Below wq.heap.size wq wq.drew from below_drew (Below.refl _ _))); go_at_call 17; refine (kP.out t At ct N x.key x.num wq.drew (T, 0) HT.out HMD.out.tab (by omega) rx.out hp.out).mono ?_; intro e w4 hpf; obtain ⟨A4, c4, rfl, hc4, y4, fr4⟩ := hpf.nf LT.out; have HM4 := Go.Lib.hid (HMD.out.table y4 hc4 LT.out fr4); clear hc4 hpf fr4; dsimp only
                  refine hKc.out _ _ (hHeld.trans (y4.mono hHeld.size)) (fun hHeld => ?_)
                  clear hKc Kc
                  try simp only [Act.put, List.setIfInBounds_toArray, List.set_cons_zero, List.set_cons_succ]
                  refine wpAnyH_take (i := 12) (oi := ⟨some 66, _, _, _, _, _⟩) (v := ?_) rfl (by kernel_rfl) (by kernel_rfl) (by kernel_rfl) (fun _ _ _ h => h) (Or.inl ⟨by rfl, ?_⟩) (by assumption) ?_
                  rotate_left
                  · intro w hSw; (try dsimp only at hSw); go_simp; (try with_reducible rfl)
                  try simp only [Act.put, List.setIfInBounds_toArray, List.set_cons_zero, List.set_cons_succ]
                  refine wpAnyH_take (i := 13) (oi := ⟨some 79, _, _, _, _, _⟩) (v := ?_) rfl (by kernel_rfl) (by kernel_rfl) (by kernel_rfl) (fun _ _ _ h => h) (Or.inl ⟨by rfl, ?_⟩) (by assumption) ?_
                  rotate_left
                  · intro w hSw; (try dsimp only at hSw); go_simp; (try with_reducible rfl)
                  try simp only [Act.put, List.setIfInBounds_toArray, List.set_cons_zero, List.set_cons_succ]
                  refine wpAnyH_take (i := 14) (oi := ⟨some 80, _, _, _, _, _⟩) (v := ?_) rfl (by kernel_rfl) (by kernel_rfl) (by kernel_rfl) (fun _ _ _ h => h) (Or.inl ⟨by rfl, ?_⟩) (by assumption) ?_
                  rotate_left
                  · intro w hSw; (try dsimp only at hSw); go_simp; (try with_reducible rfl)
                  try simp only [Act.put, List.setIfInBounds_toArray, List.set_cons_zero, List.set_cons_succ]
                  refine wpAnyH_take (i := 15) (oi := ⟨some 11, _, _, _, _, _⟩) (v := ?_) rfl (by kernel_rfl) (by kernel_rfl) (by kernel_rfl) (fun _ _ _ h => h) (Or.inl ⟨by rfl, ?_⟩) (by assumption) ?_
                  rotate_left
                  · intro w hSw; (try dsimp only at hSw); go_simp; (try with_reducible rfl)
                  try simp only [Act.put, List.setIfInBounds_toArray, List.set_cons_zero, List.set_cons_succ]
                  refine wpAnyH_take (i := 16) (oi := ⟨some 12, _, _, _, _, _⟩) (v := ?_) rfl (by kernel_rfl) (by kernel_rfl) (by kernel_rfl) (fun _ _ _ h => h) (Or.inl ⟨by rfl, ?_⟩) (by assumption) ?_
                  rotate_left
                  · intro w hSw; (try dsimp only at hSw); go_simp; (try with_reducible rfl)
                  try simp only [Act.put, List.setIfInBounds_toArray, List.set_cons_zero, List.set_cons_succ]
                  refine wpAnyH_done (by kernel_rfl) ?_ _
                  have y5 := hHeld
                  clear hHeld
                  have HM9 := Go.Lib.hid (HM4.out.call ((Below.refl w4.heap.size w4).alloc (Nat.le_refl _) (.cells #[.bool x.used, .int .i64 x.key.proto, .int .u32 x.key.src, .int .i64 x.key.sport, .int .u32 x.key.dst, .int .i64 x.key.dport, .int .i64 x.num] 44)))
                  have V9 := Go.Lib.hid (Bxo.made w4 44 (clL x))
                  have hcL4 := hcL w4 (y1.trans ((y2.trans (y5.mono y2.size)).mono y1.size))
                  go_upto_region 26 with (first
                    | (refine wpList_load_at rfl 44 _ rfl (adL.add (i * 7)) rfl (clL x) _ hcL4 Try.underlying44 rfl info_st7 ?_)
                    | (at_builtin; refine wpList_append_rdK rfl _ _ 42 rfl w2.heap.size 44 i0 _ 7 56 Try.underlying42 hi hz0 hz1 hz2 rfl (by omega) (.slice Ah H.length ch) H.length (H.flatMap Cl.L) rfl HM9.out.own (some ⟨w4.heap.size, 0, none⟩) 1 1 x.L rfl rfl (fun h => by cases h) (.inr ⟨_, rfl, V9.out.at⟩) (cl_one1 x) (by unfold maxLen; omega) (by omega) HM9.out.below.size ?_; intro v10 w10 ho10 hg10 hat10; obtain ⟨A10, c10, rfl⟩ := own_slice ho10; rw [ownBlock_blk] at hg10; rw [ownBlock_blk, ownBlock_blk] at hat10; have HM10 := Go.Lib.hid (HM9.out.push hN0 rx.out ho10 hg10 hat10); clear ho10 hg10 hat10; dsimp only))
                  go_wp2_with fail
                  go_meet
                  exact ⟨T, H ++ [x], A4, c4, A10, c10, rfl, by rw [show (H ++ [x]).length = H.length + 1 by simp], by rw [show (H ++ [x]).length = H.length + 1 by simp]; omega, HM2.out, HM10.out⟩
            case rest =>
              clear HMM HMI HMQ HT y2 hk hkl hkl'
              obtain ⟨t2, H2, A2, c2, B2, d2, rfl, rfl, hH2, hmi, hmm⟩ := hcut
              rename World => w5
              have HMI := Go.Lib.hid hmi
              have HT := Go.Lib.hid hmm.len
              have hr := Go.Lib.hid (rightCB_of hmi.right)
              have hu := Go.Lib.hid hmi.used
              have HM5 := Go.Lib.hid hmm
              have s6 : IntKind.i64.wrap ((i : Int) + 1) = (i : Int) + 1 := IntWalk.i64_in _ (by omega)
              clear hmi hmm
              go_upto_region 35 with (first
                | (go_at_call 13; refine (kR.out t2 A2 c2 N w5 true HT.out HM5.out.tab (by omega) hr.out).mono ?_; rintro e w6 ⟨rfl, y6⟩; have HM6 := Go.Lib.hid (HM5.out.call y6); dsimp only)
                | (go_at_call 15; refine (kL.out t2 A2 c2 N w6 H2.length HT.out HM6.out.tab (by omega) hu.out).mono ?_; rintro e w7 ⟨rfl, y7⟩; have HM7 := Go.Lib.hid (HM6.out.call y7); dsimp only))
              clear HM5 HM6 y6 y7
              go_wp2_with fail
              go_loopw [15] (fun kv wr => ∃ k : Nat, k ≤ H2.length ∧ kv = .int .i64 k ∧ Below w7.heap.size w7 wr) (fun kv _ => H2.length - (intOf kv).toNat)
              case atStart => exact ⟨0, by omega, rfl, Below.refl _ _⟩
              case round =>
                rename World => wq
                obtain ⟨k, hk, rfl, y8⟩ := hrel
                have k0 : (0 : Int) ≤ (k : Int) := by omega
                by_cases hkl : k < H2.length
                · have hkl' : (k : Int) < (H2.length : Int) := by omega
                  obtain ⟨ad, rfl, hcA⟩ := HM7.out.hist.cell hkl
                  obtain ⟨a, hac⟩ : ∃ a, H2[k] = a := ⟨_, rfl⟩
                  have hg := HMI.out.get hkl
                  rw [atC_get hkl, hac] at hcA
                  rw [hac] at hg
                  have HG := Go.Lib.hid hg
                  have ra := Go.Lib.hid (hac ▸ HM7.out.rng H2[k] (List.getElem_mem hkl))
                  have e1 : IntKind.i64.wrap ((k : Int) + 1) = (k : Int) + 1 := IntWalk.i64_in _ (by omega)
                  have HM8 := Go.Lib.hid (HM7.out.call y8)
                  clear hg hac
                  go_upto_region 39 with (first
                    | (refine wpList_load_at rfl 25 _ rfl ((ad.add (k * 7)).add 1) rfl (tpL a.key) _ (key_cells (hcA wq y8)) Try.underlying25 rfl info_tp ?_)
                    | (go_at_call 11; refine (kG.out t2 A2 c2 N a.key wq (a.num, true) HT.out HM8.out.tab (by omega) ra.out HG.out).mono ?_; rintro e w9 ⟨rfl, y9⟩; dsimp only))
                  have y10 := y8.trans (y9.mono y8.size)
                  have zn := hcA w9 y10 6 _ rfl
                  rw [add_add] at zn
                  have zo := at_off 6 zn (by omega)
                  clear zn
                  go_wp2_with fail
                  go_round
                  case rel => exact ⟨k + 1, by omega, by go_num, y10⟩
                  case measure => simp [intOf]; omega
                · obtain rfl : k = H2.length := by omega
                  have hkl' : ¬ (H2.length : Int) < (H2.length : Int) := by omega
                  have HM8 := Go.Lib.hid (HM7.out.call y8)
                  go_wp2_with fail
                  go_round
                  case rel => exact ⟨i + 1, t2, H2, A2, c2, B2, d2, by omega, rfl, rfl, by go_num, by omega, HMI.out, HM8.out⟩
                  case measure => simp [intOf]; omega
      · obtain rfl : i = L.length := by omega
        have hil' : ¬ (L.length : Int) < (L.length : Int) := by omega
        go_wp2
        go_ret
        exact ⟨rfl, x2.trans (HMM.out.below.mono x2.size)⟩
end Go.Proofs.Ytgapcfplicgmaaa
