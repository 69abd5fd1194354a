/- The contract of package tcp's readOpts. -/
import Derived.Test.YtghgemmbbedopaaTcpA8
namespace Go.Proofs.Ytghgemmbbedopaa
open Go.ChangeShapes Go.WideShapes Go.ChangeAt Go.RowKit
set_option linter.unusedVariables false
set_option linter.unusedSimpArgs false

theorem rOpts_len : ∀ (f : Nat) (l : List UInt8) (acc os : List Op), rOpts f l acc = some os → olen os ≤ olen acc + l.length
  | 0, l, acc, os, e => by simp only [rOpts, Option.some.injEq] at e; subst e; omega
  | f + 1, [], acc, os, e => by simp only [rOpts, Option.some.injEq] at e; subst e; omega
  | f + 1, [k], acc, os, e => by
    rw [rOpts] at e
    split at e
    · simp only [Option.some.injEq] at e; subst e; omega
    · split at e
      · have := rOpts_len f [] acc os e; simp at this ⊢; omega
      · simp at e
  | f + 1, k :: n :: r, acc, os, e => by
    rw [rOpts] at e
    split at e
    · simp only [Option.some.injEq] at e; subst e; omega
    · split at e
      · have := rOpts_len f (n :: r) acc os e; simp at this ⊢; omega
      · split at e
        · simp at e
        · have := rOpts_len f _ _ os e
          rw [olen_append] at this
          simp only [olen, List.length_take, List.length_drop, List.length_cons] at this ⊢
          omega
theorem olen_osm (os : List Op) (h : olen os ≤ 65536) : Osm os := by
  have h1 : ∀ o ∈ os, o.data.length ≤ olen os := by
    intro o ho
    obtain ⟨i, hi, rfl⟩ := List.getElem_of_mem ho
    have := olen_take_succ os i hi
    have := olen_take_le os (i + 1)
    omega
  have h2 : 2 * os.length ≤ olen os := by
    clear h h1
    induction os with
    | nil => simp
    | cons o r ih => simp only [olen, List.length_cons]; omega
  exact ⟨by omega, fun o ho => by have := h1 o ho; omega⟩
/-- what readOpts hands back. -/
structure ReadO (w : World) (r : Option (List Op)) (e : Ending) (w' : World) : Prop where
  below : Below w.heap.size w w'
  no : r = none → e = .returned (.tuple #[.slice none 0 0, .bool false])
  yes : ∀ os, r = some os → ∃ Ao co, e = .returned (.tuple #[.slice Ao os.length co, .bool true]) ∧ os.length ≤ co ∧ co ≤ 9223372036854775807 ∧ (Ao = none → co = 0) ∧ OsF w' w.heap.size w'.heap.size Ao os
def sliceLen : Value → Nat
  | .slice _ n _ => n
  | _ => 0
/-- fair options of few bytes are right. -/
theorem pOpts_none {l : List UInt8} (h : rOpts 60 l [] = none) : pOpts 60 l [] = none := by rw [pOpts_rOpts 60 l [] right_nil, h]
theorem pOpts_unfair {l : List UInt8} {os : List Op} (h : rOpts 60 l [] = some os) (hf : fairB os = false) : pOpts 60 l [] = none := by
  rw [pOpts_rOpts 60 l [] right_nil, h]; dsimp only; rw [right_fair, hf]; rfl
theorem pOpts_fair {l : List UInt8} {os : List Op} (h : rOpts 60 l [] = some os) (hf : fairB os = true) (hl : l.length ≤ 40) : pOpts 60 l [] = some os := by
  have := rOpts_len 60 l [] os h
  simp only [olen] at this
  rw [pOpts_rOpts 60 l [] right_nil, h]
  dsimp only
  rw [right_fair, hf]
  simp; omega

set_option maxRecDepth 100000 in
set_option maxHeartbeats 8000000 in
theorem treadOpts (A : Option Addr) (n c : Nat) (l : List UInt8) (w : World) (hn : l.length = n) (h : Bs w w.heap.size A l) (hn2 : n ≤ 40) (hnc : n ≤ c) (hc : c ≤ 9223372036854775807) (hA : A = none → c = 0) :
    Calls Try.prog 34 #[.slice A n c] w (ReadO w (pOpts 60 l [])) := by
  have HN := Go.Lib.hid hn
  have HB := Go.Lib.hid h
  clear hn h
  go_enter Try.func34, Try.ntmps34
  go_wp2
  go_loopw [0, 4] (fun s0 s4 wx => ∃ (ls : List UInt8) (A' : Option Addr) (r rc : Nat) (acc : List Op) (Ao : Option Addr) (co f : Nat), s0 = .slice A' r rc ∧ s4 = .slice Ao acc.length co ∧ Hid (rOpts f ls acc = rOpts 60 l []) ∧ Hid (ls.length = r ∧ olen acc + r ≤ 40) ∧ r ≤ f ∧ r ≤ rc ∧ rc ≤ c ∧ r ≤ 40 ∧ Hid (Bs w w.heap.size A' ls) ∧ Hid (ORow wx w.heap.size (.slice Ao acc.length co) acc) ∧ Below w.heap.size w wx) (fun s0 _ _ => sliceLen s0)
  case atStart => exact ⟨l, A, n, c, [], none, 0, 60, rfl, rfl, Go.Lib.hid rfl, Go.Lib.hid ⟨HN.out, by simp [olen]; exact hn2⟩, by omega, hnc, Nat.le_refl _, hn2, HB, Go.Lib.hid ORow.nil_, Below.refl _ _⟩
  case round =>
    obtain ⟨ls, A', r, rc, acc, Ao, co, f, rfl, rfl, HR, HL, hrf, hrc, hrcc, hr40, HBS, HO, x1⟩ := hrel
    clear HB
    by_cases hr0 : r = 0
    · subst hr0
      have hE : Hid (rOpts 60 l [] = some acc) := Go.Lib.hid (by
        rw [← HR.out]
        have := rOpts_end f ls 0 acc (by have := HL.out.1; omega)
        simpa using this)
      obtain ⟨b, hb⟩ : ∃ b, fairB acc = b := ⟨_, rfl⟩
      have HF := Go.Lib.hid hb
      clear hb
      obtain ⟨A2, c2, hv, q1, q2, q3, q4⟩ := HO.out.form
      injection hv with v1 v2 v3
      subst v1 v3
      have HQ := Go.Lib.hid q4
      have HQ3 := Go.Lib.hid q3
      clear q4 q3 v2
      have hosm := Go.Lib.hid (olen_osm acc (by have := HL.out.2; omega))
      cases b
      · go_wp2_with (go_at_call 40; refine (toptsRight Ao _ co acc wr.heap.size _ false HF.out rfl HQ.out.os (Nat.le_refl _) hosm.out).mono ?_; rintro e w2 ⟨rfl, hb2⟩; dsimp only)
        go_ret2
        exact ⟨x1.trans (hb2.mono x1.size), fun _ => rfl, fun os e => by rw [pOpts_unfair hE.out HF.out] at e; cases e⟩
      · go_wp2_with (go_at_call 40; refine (toptsRight Ao _ co acc wr.heap.size _ true HF.out rfl HQ.out.os (Nat.le_refl _) hosm.out).mono ?_; rintro e w2 ⟨rfl, hb2⟩; dsimp only)
        go_ret2
        have hp := pOpts_fair hE.out HF.out (by have := HN.out; omega)
        exact ⟨x1.trans (hb2.mono x1.size), (fun e => by rw [hp] at e; cases e), fun os e => by
          rw [hp] at e
          cases e
          exact ⟨Ao, co, rfl, q1, q2, HQ3.out, (HQ.out.below hb2).more hb2.size⟩⟩
    · obtain ⟨ad, rfl, hlt, hcell⟩ := g8_cells HBS.out (by have := HL.out.1; omega)
      have c0 : w.cell? ad = some (.int .u8 (g8 ls 0)) := by have := hcell 0 (by have := HL.out.1; omega); rwa [add_zero] at this
      have c0 := (x1.cell (p := ad) hlt).trans c0
      have hx0 := g8_lo ls 0
      have hx1 := g8_hi ls 0
      have hr1 : 0 < r := by omega
      obtain ⟨x, hx⟩ : ∃ x, g8 ls 0 = x := ⟨_, rfl⟩
      rw [hx] at c0 hx0 hx1
      obtain ⟨f, rfl⟩ : ∃ f', f = f' + 1 := ⟨f - 1, by omega⟩
      by_cases h0 : x = 0
      · have hE : Hid (rOpts 60 l [] = some acc) := Go.Lib.hid (by
          rw [← HR.out]
          have := rOpts_zero f ls 0 acc (by have := HL.out.1; omega) (by rw [hx, h0])
          simpa using this)
        have t0 : (x != 0) = false := by simpa using h0
        have HX := Go.Lib.hid h0
        clear hx h0 hcell
        obtain ⟨b, hb⟩ : ∃ b, fairB acc = b := ⟨_, rfl⟩
        have HF := Go.Lib.hid hb
        clear hb
        obtain ⟨A2, c2, hv, q1, q2, q3, q4⟩ := HO.out.form
        injection hv with v1 v2 v3
        subst v1 v3
        have HQ := Go.Lib.hid q4
        have HQ3 := Go.Lib.hid q3
        clear q4 q3 v2
        have hosm := Go.Lib.hid (olen_osm acc (by have := HL.out.2; omega))
        cases b
        · go_wp2_with (go_at_call 40; refine (toptsRight Ao _ co acc wr.heap.size _ false HF.out rfl HQ.out.os (Nat.le_refl _) hosm.out).mono ?_; rintro e w2 ⟨rfl, hb2⟩; dsimp only)
          go_ret2
          exact ⟨x1.trans (hb2.mono x1.size), fun _ => rfl, fun os e => by rw [pOpts_unfair hE.out HF.out] at e; cases e⟩
        · go_wp2_with (go_at_call 40; refine (toptsRight Ao _ co acc wr.heap.size _ true HF.out rfl HQ.out.os (Nat.le_refl _) hosm.out).mono ?_; rintro e w2 ⟨rfl, hb2⟩; dsimp only)
          go_ret2
          have hp := pOpts_fair hE.out HF.out (by have := HN.out; omega)
          exact ⟨x1.trans (hb2.mono x1.size), (fun e => by rw [hp] at e; cases e), fun os e => by
            rw [hp] at e
            cases e
            exact ⟨Ao, co, rfl, q1, q2, HQ3.out, (HQ.out.below hb2).more hb2.size⟩⟩
      · have t0 : (x != 0) = true := by simpa using h0
        by_cases h1 : x = 1
        · have hE : Hid (rOpts f (ls.drop 1) acc = rOpts 60 l []) := Go.Lib.hid (by
            rw [← HR.out]
            have := rOpts_one f ls 0 acc (by have := HL.out.1; omega) (by rw [hx, h1])
            simpa using this.symm)
          have t1 : (x == 1) = true := by simpa using h1
          have HC : Hid (Bs w w.heap.size (if rc = 1 then (some ad : Option Addr) else some { block := ad.block, off := ad.off + 1 }) (ls.drop 1)) := Go.Lib.hid (HBS.out.cut 1 rc (by have := HL.out.1; omega) (by omega))
          clear hx h0 h1 hcell
          go_wp2
          go_roundw
          case rel => exact ⟨ls.drop 1, _, r - 1, rc - 1, acc, Ao, co, f, rfl, rfl, hE, Go.Lib.hid ⟨by rw [List.length_drop, HL.out.1], by have := HL.out.2; omega⟩, by omega, by omega, by omega, by omega, HC, HO, x1⟩
          case measure => simp [sliceLen]; omega
        · have t1 : (x == 1) = false := by simpa using h1
          by_cases hr2 : r < 2
          · have HBAD : Hid (rOpts 60 l [] = none) := Go.Lib.hid (by
              rw [← HR.out]
              have := rOpts_bad f ls 0 acc (by have := HL.out.1; omega) (by rw [hx]; exact h0) (by rw [hx]; exact h1) (.inl (by have := HL.out.1; omega))
              simpa using this)
            clear hx h0 h1 hcell
            go_wp2
            go_ret2
            exact ⟨x1, fun _ => rfl, fun os e => by rw [pOpts_none HBAD.out] at e; cases e⟩
          · have c1 : w.cell? { block := ad.block, off := ad.off + 1 } = some (.int .u8 (g8 ls 1)) := by have := hcell 1 (by have := HL.out.1; omega); rwa [add_pos ad 1 (by omega)] at this
            have c1 := (x1.cell (p := { block := ad.block, off := ad.off + 1 }) hlt).trans c1
            have hy0 := g8_lo ls 1
            have hy1 := g8_hi ls 1
            obtain ⟨m, hm⟩ : ∃ m : Nat, (m : Int) = g8 ls 1 := ⟨(g8 ls 1).toNat, by omega⟩
            rw [← hm] at c1 hy0 hy1
            have i1 : (1 : Int) < (r : Int) := by omega
            have e1 := IntWalk.i64_in (m : Int) (by omega)
            by_cases hmb : m < 2 ∨ r < m
            · have HBAD : Hid (rOpts 60 l [] = none) := Go.Lib.hid (by
                rw [← HR.out]
                have := rOpts_bad f ls 0 acc (by have := HL.out.1; omega) (by rw [hx]; exact h0) (by rw [hx]; exact h1) (.inr (by have := HL.out.1; have e : g8 ls (0 + 1) = (m : Int) := hm.symm; rw [e]; omega))
                simpa using this)
              have hmb' : (m : Int) < 2 ∨ (2 ≤ (m : Int) ∧ (r : Int) < (m : Int)) := by omega
              have hmb2 : m < 2 ∨ r < m := hmb
              clear hx h0 h1 hcell hm hmb
              by_cases hm2 : m < 2
              · clear hmb' hmb2
                go_wp2
                go_ret2
                exact ⟨x1, fun _ => rfl, fun os e => by rw [pOpts_none HBAD.out] at e; cases e⟩
              · have hm3 : 2 ≤ m := by omega
                have hm4 : r < m := by omega
                clear hmb' hmb2 hm2
                go_wp2
                go_ret2
                exact ⟨x1, fun _ => rfl, fun os e => by rw [pOpts_none HBAD.out] at e; cases e⟩
            · have hm2 : 2 ≤ m := by omega
              have hm3 : m ≤ r := by omega
              have hE : Hid (rOpts f (ls.drop m) (acc ++ [⟨x, (ls.take m).drop 2⟩]) = rOpts 60 l []) := Go.Lib.hid (by
                rw [← HR.out]
                have := rOpts_step f ls 0 acc m hm (by have := HL.out.1; omega) (by rw [hx]; exact h0) (by rw [hx]; exact h1) hm2 (by have := HL.out.1; omega)
                simp only [Nat.zero_add, List.drop_zero, hx] at this
                exact this.symm)
              have HC : Hid (Bs w w.heap.size (if rc = m then (some ad : Option Addr) else some (ad.add m)) (ls.drop m)) := Go.Lib.hid (by rw [add_pos ad m (by omega)]; exact HBS.out.cut m rc (by have := HL.out.1; omega) (by omega))
              have HDB : Hid (Bs w w.heap.size (if rc = 2 then (some ad : Option Addr) else some { block := ad.block, off := ad.off + 2 }) ((ls.take m).drop 2)) := Go.Lib.hid ((HBS.out.take m).cut 2 rc (by have := HL.out.1; rw [List.length_take]; omega) (by omega))
              have HDL : Hid (((ls.take m).drop 2).length = m - 2) := Go.Lib.hid (by have := HL.out.1; rw [List.length_drop, List.length_take]; omega)
              have HDN : Hid ((if rc = 2 then (some ad : Option Addr) else some { block := ad.block, off := ad.off + 2 }) = none → rc - 2 = 0) := Go.Lib.hid (fun h => by split at h <;> cases h)
              have hac : acc.length ≤ 40 := by
                have h1 := HL.out.2
                have h2 : 2 * acc.length ≤ olen acc := by
                  clear h1 HR HL HO hE
                  induction acc with
                  | nil => simp
                  | cons o r ih => simp only [olen, List.length_cons]; omega
                omega
              clear hx h0 h1 hcell hm hmb
              have i2 : (2 : Int) ≤ (m : Int) := by omega
              have i3 : (m : Int) ≤ (rc : Int) := by omega
              have i4 : (m : Int) ≤ (r : Int) := by omega
              have i5 : (0 : Int) ≤ (m : Int) := by omega
              have e2 := IntWalk.i64_in x (by omega)
              go_upto_region 10 with fail
              refine wp_region_held_drew (S := (fun Y => Y.cell? ad = some (.int .u8 x) ∧ Below w.heap.size w Y)) (by kernel_rfl) ?_ (fun hHeld => ?_)
              · exact ⟨c0, below_drew x1⟩
              refine wpAnyH_take (i := 0) (oi := ⟨some 36, _, _, _, _, _⟩) (v := ?_) rfl (by kernel_rfl) (by kernel_rfl) (by kernel_rfl) (fun _ _ _ h => h) (Or.inl ⟨by rfl, ?_⟩) (by assumption) ?_
              rotate_left
              · intro w hSw; (try dsimp only at hSw); go_simp; (try with_reducible rfl)
              try simp only [Act.put, List.setIfInBounds_toArray, List.set_cons_zero, List.set_cons_succ]
              refine wpAnyH_take (i := 1) (oi := ⟨some 37, _, _, _, _, _⟩) (v := ?_) rfl (by kernel_rfl) (by kernel_rfl) (by kernel_rfl) (fun _ _ _ h => h) (Or.inl ⟨by rfl, ?_⟩) (by assumption) ?_
              rotate_left
              · intro w hSw; (try dsimp only at hSw); go_simp; (try with_reducible rfl)
              try simp only [Act.put, List.setIfInBounds_toArray, List.set_cons_zero, List.set_cons_succ]
              refine wpAnyH_take (i := 2) (oi := ⟨some 38, _, _, _, _, _⟩) (v := ?_) rfl (by kernel_rfl) (by kernel_rfl) (by kernel_rfl) (fun _ _ _ h => h) (Or.inl ⟨by rfl, ?_⟩) (by assumption) ?_
              rotate_left
              · intro w hSw; (try dsimp only at hSw); go_simp; (try with_reducible rfl)
              try simp only [Act.put, List.setIfInBounds_toArray, List.set_cons_zero, List.set_cons_succ]
              refine wpAnyH_take (i := 3) (oi := ⟨some 39, _, _, _, _, _⟩) (v := ?_) rfl (by kernel_rfl) (by kernel_rfl) (by kernel_rfl) (fun _ _ _ h => h) (Or.inl ⟨by rfl, ?_⟩) (by assumption) ?_
              rotate_left
              · intro w hSw; (try dsimp only at hSw); go_simp; (try with_reducible rfl)
              try simp only [Act.put, List.setIfInBounds_toArray, List.set_cons_zero, List.set_cons_succ]
              refine wpAnyH_take (i := 4) (oi := ⟨some 40, _, _, _, _, _⟩) (v := ?_) rfl (by kernel_rfl) (by kernel_rfl) (by kernel_rfl) (fun _ _ _ h => h) (Or.inl ⟨by rfl, ?_⟩) (by assumption) ?_
              rotate_left
              · intro w hSw; (try dsimp only at hSw); go_simp; (try with_reducible rfl)
              try simp only [Act.put, List.setIfInBounds_toArray, List.set_cons_zero, List.set_cons_succ]
              refine wpAnyH_take (i := 5) (oi := ⟨some 41, _, _, _, _, _⟩) (v := ?_) rfl (by kernel_rfl) (by kernel_rfl) (by kernel_rfl) (fun _ _ _ h => h) (Or.inl ⟨by rfl, ?_⟩) (by assumption) ?_
              rotate_left
              · intro w hSw; (try dsimp only at hSw); go_simp; (try with_reducible rfl)
              try simp only [Act.put, List.setIfInBounds_toArray, List.set_cons_zero, List.set_cons_succ]
              refine wpAnyH_take (i := 6) (oi := ⟨some 42, _, _, _, _, _⟩) (v := ?_) rfl (by kernel_rfl) (by kernel_rfl) (by kernel_rfl) (fun _ _ _ h => h) (Or.inl ⟨by rfl, ?_⟩) (by assumption) ?_
              rotate_left
              · intro w hSw; (try dsimp only at hSw); go_simp; (try with_reducible rfl)
              try simp only [Act.put, List.setIfInBounds_toArray, List.set_cons_zero, List.set_cons_succ]
              refine wpAnyH_take (i := 7) (oi := ⟨some 43, _, _, _, _, _⟩) (v := ?_) rfl (by kernel_rfl) (by kernel_rfl) (by kernel_rfl) (fun _ _ _ h => h) (Or.inl ⟨by rfl, ?_⟩) (by assumption) ?_
              rotate_left
              · intro w hSw; (try dsimp only at hSw); go_simp; (try with_reducible rfl)
              try simp only [Act.put, List.setIfInBounds_toArray, List.set_cons_zero, List.set_cons_succ]
              refine wpAnyH_ready (rs := [8]) (by kernel_rfl) (by simp) (AllReadyH.cons (o := ⟨some 44, _, _, _, _, _⟩) rfl (fun Kc hKc => ?_) AllReadyH.nil)
              go_simp
              go_at_call 32; refine (cclone _ (m - 2) (rc - 2) ((ls.take m).drop 2) w.heap.size _ HDL.out (HDB.out.below (below_drew x1)) (below_drew x1).size (by omega) HDN.out (by omega)).mono ?_; rintro e w3 ⟨A3, c3, rfl, hg3⟩; have x3 : Below w.heap.size w w3 := (below_drew x1).trans (hg3.below.mono x1.size); have c03 := (hg3.below.cell (p := ad) (Nat.lt_of_lt_of_le hlt x1.size)).trans c0; have o3 := (HO.out.keep (below_drew (Below.refl _ _))).keep hg3.below
              clear hHeld
              refine hKc.out _ _ ?_ (fun hHeld => ?_)
              · (try dsimp only); exact ⟨c03, x3⟩
              clear hKc Kc
              try simp only [Act.put, List.setIfInBounds_toArray, List.set_cons_zero, List.set_cons_succ]
              refine wpAnyH_take (i := 9) (oi := ⟨some 45, _, _, _, _, _⟩) (v := ?_) rfl (by kernel_rfl) (by kernel_rfl) (by kernel_rfl) (fun _ _ _ h => h) (Or.inl ⟨by rfl, ?_⟩) (by assumption) ?_
              rotate_left
              · intro w hSw; (try dsimp only at hSw); go_simp; (try with_reducible rfl)
              try simp only [Act.put, List.setIfInBounds_toArray, List.set_cons_zero, List.set_cons_succ]
              refine wpAnyH_ready (rs := [10]) (by kernel_rfl) (by simp) (AllReadyH.cons (o := ⟨some 46, _, _, _, _, _⟩) rfl (fun Kc hKc => ?_) AllReadyH.nil)
              go_simp
              have x4 := x3.alloc x3.size (.cells #[.int .i64 x, .slice A3 (m - 2) c3] 39); have y4 : Below w3.heap.size w3 (w3.alloc (.cells #[.int .i64 x, .slice A3 (m - 2) c3] 39)) := (Below.refl _ _).alloc (Nat.le_refl _) _; have c04 := (y4.cell (p := ad) (Nat.lt_of_lt_of_le hlt x3.size)).trans c03; have o4 := o3.keep y4; have q40 : (w3.alloc (.cells #[.int .i64 x, .slice A3 (m - 2) c3] 39)).cell? ⟨w3.heap.size, 0, none⟩ = some (.int .i64 x) := by simp [go_sem]
              have q41 : (w3.alloc (.cells #[.int .i64 x, .slice A3 (m - 2) c3] 39)).cell? ⟨w3.heap.size, 1, none⟩ = some (.slice A3 (m - 2) c3) := by simp [go_sem]
              generalize w3.alloc (.cells #[.int .i64 x, .slice A3 (m - 2) c3] 39) = w4 at *
              clear hHeld
              refine hKc.out _ _ ?_ (fun hHeld => ?_)
              · (try dsimp only); exact ⟨c04, x4⟩
              clear hKc Kc
              try simp only [Act.put, List.setIfInBounds_toArray, List.set_cons_zero, List.set_cons_succ]
              refine wpAnyH_ready (rs := [11]) (by kernel_rfl) (by simp) (AllReadyH.cons (o := ⟨some 47, _, _, _, _, _⟩) rfl (fun Kc hKc => ?_) AllReadyH.nil)
              refine opS rfl (.tmp 36) (.tmp 46) rfl w.heap.size (.slice Ao acc.length co) acc rfl o4 w3.heap.size 1 rfl x A3 (m - 2) c3 ((ls.take m).drop 2) q40 q41 HDL.out ((hg3.bs.below y4).more y4.size) (by have := hg3.len; rw [HDL.out] at this; exact this) hg3.cap hg3.nil ?_ (by omega) x4.size ?_
              · intro _ ad3 e3
                have k2 := hg3.fresh ad3 e3
                have k3 : wr.heap.size ≤ ad3.block := k2
                refine ⟨fun hov => ?_, Nat.le_trans x1.size k3⟩
                have k1 := (HO.out.lt _ hov).2
                omega
              intro v5 w5 o5 b5
              have x5 := x4.trans b5
              have c05 := (b5.cell (p := ad) hlt).trans c04
              clear hHeld
              refine hKc.out _ _ ?_ (fun hHeld => ?_)
              · (try dsimp only); exact ⟨c05, x5⟩
              clear hKc Kc
              try simp only [Act.put, List.setIfInBounds_toArray, List.set_cons_zero, List.set_cons_succ]
              refine wpAnyH_take (i := 12) (oi := ⟨some 4, _, _, _, _, _⟩) (v := ?_) rfl (by kernel_rfl) (by kernel_rfl) (by kernel_rfl) (fun _ _ _ h => h) (Or.inl ⟨by rfl, ?_⟩) (by assumption) ?_
              rotate_left
              · intro w hSw; (try dsimp only at hSw); go_simp; (try with_reducible rfl)
              try simp only [Act.put, List.setIfInBounds_toArray, List.set_cons_zero, List.set_cons_succ]
              refine wpAnyH_done (by kernel_rfl) ?_ _
              obtain ⟨A5, c5, rfl, _, _, _, _⟩ := o5.form
              have HO5 := Go.Lib.hid o5
              clear o5 o4 o3 hg3 b5 x3 x4 x1 c0 c03 c04 c05 y4 q40 q41 hHeld
              go_wp2
              go_roundw
              case rel =>
                exact ⟨ls.drop m, _, r - m, rc - m, acc ++ [⟨x, (ls.take m).drop 2⟩], A5, c5, f, rfl, rfl, hE, Go.Lib.hid ⟨by rw [List.length_drop, HL.out.1], by have h1 := HL.out.2; have h2 := HDL.out; rw [olen_append]; simp only [olen]; rw [h2]; omega⟩, by omega, by omega, by omega, by omega, HC, HO5, x5⟩
              case measure => simp [sliceLen]; omega
end Go.Proofs.Ytghgemmbbedopaa
