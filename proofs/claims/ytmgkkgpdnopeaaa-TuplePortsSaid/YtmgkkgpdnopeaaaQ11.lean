/- Lemmas, several texts in one. -/
import Derived.Test.YtmgkkgpdnopeaaaQ10
/- The contract of package tcp's readOpts. -/
namespace Go.Proofs.Ytmgkkgpdnopeaaa
open Go.ChangeShapes Go.WideShapes Go.ChangeAt Go.RowKit
set_option linter.unusedVariables false
set_option linter.unusedSimpArgs false

theorem rOpts_len : ∀ (f : Nat) (l : List UInt8) (acc os : List Op), rOpts f l acc = some os → olen os ≤ olen acc + l.length
  | 0, l, acc, os, e => by simp only [rOpts, Option.some.injEq] at e; subst e; omega
  | f + 1, [], acc, os, e => by simp only [rOpts, Option.some.injEq] at e; subst e; omega
  | f + 1, [k], acc, os, e => by
    rw [rOpts] at e
    split at e
    · simp only [Option.some.injEq] at e; subst e; omega
    · split at e
      · have := rOpts_len f [] acc os e; simp at this ⊢; omega
      · simp at e
  | f + 1, k :: n :: r, acc, os, e => by
    rw [rOpts] at e
    split at e
    · simp only [Option.some.injEq] at e; subst e; omega
    · split at e
      · have := rOpts_len f (n :: r) acc os e; simp at this ⊢; omega
      · split at e
        · simp at e
        · have := rOpts_len f _ _ os e
          rw [olen_append] at this
          simp only [olen, List.length_take, List.length_drop, List.length_cons] at this ⊢
          omega
theorem olen_osm (os : List Op) (h : olen os ≤ 65536) : Osm os := by
  have h1 : ∀ o ∈ os, o.data.length ≤ olen os := by
    intro o ho
    obtain ⟨i, hi, rfl⟩ := List.getElem_of_mem ho
    have := olen_take_succ os i hi
    have := olen_take_le os (i + 1)
    omega
  have h2 : 2 * os.length ≤ olen os := by
    clear h h1
    induction os with
    | nil => simp
    | cons o r ih => simp only [olen, List.length_cons]; omega
  exact ⟨by omega, fun o ho => by have := h1 o ho; omega⟩
/-- what readOpts hands back. -/
structure ReadO (w : World) (r : Option (List Op)) (e : Ending) (w' : World) : Prop where
  below : Below w.heap.size w w'
  no : r = none → e = .returned (.tuple #[.slice none 0 0, .bool false])
  yes : ∀ os, r = some os → ∃ Ao co, e = .returned (.tuple #[.slice Ao os.length co, .bool true]) ∧ os.length ≤ co ∧ co ≤ 9223372036854775807 ∧ (Ao = none → co = 0) ∧ OsF w' w.heap.size w'.heap.size Ao os
def sliceLen : Value → Nat
  | .slice _ n _ => n
  | _ => 0
/-- fair options of few bytes are right. -/
theorem pOpts_none {l : List UInt8} (h : rOpts 60 l [] = none) : pOpts 60 l [] = none := by rw [pOpts_rOpts 60 l [] right_nil, h]
theorem pOpts_unfair {l : List UInt8} {os : List Op} (h : rOpts 60 l [] = some os) (hf : fairB os = false) : pOpts 60 l [] = none := by
  rw [pOpts_rOpts 60 l [] right_nil, h]; dsimp only; rw [right_fair, hf]; rfl
theorem pOpts_fair {l : List UInt8} {os : List Op} (h : rOpts 60 l [] = some os) (hf : fairB os = true) (hl : l.length ≤ 40) : pOpts 60 l [] = some os := by
  have := rOpts_len 60 l [] os h
  simp only [olen] at this
  rw [pOpts_rOpts 60 l [] right_nil, h]
  dsimp only
  rw [right_fair, hf]
  simp; omega

set_option maxRecDepth 100000 in
set_option maxHeartbeats 8000000 in
theorem treadOpts (A : Option Addr) (n c : Nat) (l : List UInt8) (w : World) (hn : l.length = n) (h : Bs w w.heap.size A l) (hn2 : n ≤ 40) (hnc : n ≤ c) (hc : c ≤ 9223372036854775807) (hA : A = none → c = 0) :
    Calls Try.prog 69 #[.slice A n c] w (ReadO w (pOpts 60 l [])) := by
  have HN := Go.Lib.hid hn
  have HB := Go.Lib.hid h
  clear hn h
  go_enter Try.func69, Try.ntmps69
  go_wp2
  go_loopw [0, 4] (fun s0 s4 wx => ∃ (ls : List UInt8) (A' : Option Addr) (r rc : Nat) (acc : List Op) (Ao : Option Addr) (co f : Nat), s0 = .slice A' r rc ∧ s4 = .slice Ao acc.length co ∧ Hid (rOpts f ls acc = rOpts 60 l []) ∧ Hid (ls.length = r ∧ olen acc + r ≤ 40) ∧ r ≤ f ∧ r ≤ rc ∧ rc ≤ c ∧ r ≤ 40 ∧ Hid (Bs w w.heap.size A' ls) ∧ Hid (ORow wx w.heap.size (.slice Ao acc.length co) acc) ∧ Below w.heap.size w wx) (fun s0 _ _ => sliceLen s0)
  case atStart => exact ⟨l, A, n, c, [], none, 0, 60, rfl, rfl, Go.Lib.hid rfl, Go.Lib.hid ⟨HN.out, by simp [olen]; exact hn2⟩, by omega, hnc, Nat.le_refl _, hn2, HB, Go.Lib.hid ORow.nil_, Below.refl _ _⟩
  case round =>
    obtain ⟨ls, A', r, rc, acc, Ao, co, f, rfl, rfl, HR, HL, hrf, hrc, hrcc, hr40, HBS, HO, x1⟩ := hrel
    clear HB
    by_cases hr0 : r = 0
    · subst hr0
      have hE : Hid (rOpts 60 l [] = some acc) := Go.Lib.hid (by
        rw [← HR.out]
        have := rOpts_end f ls 0 acc (by have := HL.out.1; omega)
        simpa using this)
      obtain ⟨b, hb⟩ : ∃ b, fairB acc = b := ⟨_, rfl⟩
      have HF := Go.Lib.hid hb
      clear hb
      obtain ⟨A2, c2, hv, q1, q2, q3, q4⟩ := HO.out.form
      injection hv with v1 v2 v3
      subst v1 v3
      have HQ := Go.Lib.hid q4
      have HQ3 := Go.Lib.hid q3
      clear q4 q3 v2
      have hosm := Go.Lib.hid (olen_osm acc (by have := HL.out.2; omega))
      cases b
      · go_wp2_with (go_at_call 62; refine (toptsRight Ao _ co acc wr.heap.size _ false HF.out rfl HQ.out.os (Nat.le_refl _) hosm.out).mono ?_; rintro e w2 ⟨rfl, hb2⟩; dsimp only)
        go_ret2
        exact ⟨x1.trans (hb2.mono x1.size), fun _ => rfl, fun os e => by rw [pOpts_unfair hE.out HF.out] at e; cases e⟩
      · go_wp2_with (go_at_call 62; refine (toptsRight Ao _ co acc wr.heap.size _ true HF.out rfl HQ.out.os (Nat.le_refl _) hosm.out).mono ?_; rintro e w2 ⟨rfl, hb2⟩; dsimp only)
        go_ret2
        have hp := pOpts_fair hE.out HF.out (by have := HN.out; omega)
        exact ⟨x1.trans (hb2.mono x1.size), (fun e => by rw [hp] at e; cases e), fun os e => by
          rw [hp] at e
          cases e
          exact ⟨Ao, co, rfl, q1, q2, HQ3.out, (HQ.out.below hb2).more hb2.size⟩⟩
    · obtain ⟨ad, rfl, hlt, hcell⟩ := g8_cells HBS.out (by have := HL.out.1; omega)
      have c0 : w.cell? ad = some (.int .u8 (g8 ls 0)) := by have := hcell 0 (by have := HL.out.1; omega); rwa [add_zero] at this
      have c0 := (x1.cell (p := ad) hlt).trans c0
      have hx0 := g8_lo ls 0
      have hx1 := g8_hi ls 0
      have hr1 : 0 < r := by omega
      obtain ⟨x, hx⟩ : ∃ x, g8 ls 0 = x := ⟨_, rfl⟩
      rw [hx] at c0 hx0 hx1
      obtain ⟨f, rfl⟩ : ∃ f', f = f' + 1 := ⟨f - 1, by omega⟩
      by_cases h0 : x = 0
      · have hE : Hid (rOpts 60 l [] = some acc) := Go.Lib.hid (by
          rw [← HR.out]
          have := rOpts_zero f ls 0 acc (by have := HL.out.1; omega) (by rw [hx, h0])
          simpa using this)
        have t0 : (x != 0) = false := by simpa using h0
        have HX := Go.Lib.hid h0
        clear hx h0 hcell
        obtain ⟨b, hb⟩ : ∃ b, fairB acc = b := ⟨_, rfl⟩
        have HF := Go.Lib.hid hb
        clear hb
        obtain ⟨A2, c2, hv, q1, q2, q3, q4⟩ := HO.out.form
        injection hv with v1 v2 v3
        subst v1 v3
        have HQ := Go.Lib.hid q4
        have HQ3 := Go.Lib.hid q3
        clear q4 q3 v2
        have hosm := Go.Lib.hid (olen_osm acc (by have := HL.out.2; omega))
        cases b
        · go_wp2_with (go_at_call 62; refine (toptsRight Ao _ co acc wr.heap.size _ false HF.out rfl HQ.out.os (Nat.le_refl _) hosm.out).mono ?_; rintro e w2 ⟨rfl, hb2⟩; dsimp only)
          go_ret2
          exact ⟨x1.trans (hb2.mono x1.size), fun _ => rfl, fun os e => by rw [pOpts_unfair hE.out HF.out] at e; cases e⟩
        · go_wp2_with (go_at_call 62; refine (toptsRight Ao _ co acc wr.heap.size _ true HF.out rfl HQ.out.os (Nat.le_refl _) hosm.out).mono ?_; rintro e w2 ⟨rfl, hb2⟩; dsimp only)
          go_ret2
          have hp := pOpts_fair hE.out HF.out (by have := HN.out; omega)
          exact ⟨x1.trans (hb2.mono x1.size), (fun e => by rw [hp] at e; cases e), fun os e => by
            rw [hp] at e
            cases e
            exact ⟨Ao, co, rfl, q1, q2, HQ3.out, (HQ.out.below hb2).more hb2.size⟩⟩
      · have t0 : (x != 0) = true := by simpa using h0
        by_cases h1 : x = 1
        · have hE : Hid (rOpts f (ls.drop 1) acc = rOpts 60 l []) := Go.Lib.hid (by
            rw [← HR.out]
            have := rOpts_one f ls 0 acc (by have := HL.out.1; omega) (by rw [hx, h1])
            simpa using this.symm)
          have t1 : (x == 1) = true := by simpa using h1
          have HC : Hid (Bs w w.heap.size (if rc = 1 then (some ad : Option Addr) else some { block := ad.block, off := ad.off + 1 }) (ls.drop 1)) := Go.Lib.hid (HBS.out.cut 1 rc (by have := HL.out.1; omega) (by omega))
          clear hx h0 h1 hcell
          go_wp2
          go_roundw
          case rel => exact ⟨ls.drop 1, _, r - 1, rc - 1, acc, Ao, co, f, rfl, rfl, hE, Go.Lib.hid ⟨by rw [List.length_drop, HL.out.1], by have := HL.out.2; omega⟩, by omega, by omega, by omega, by omega, HC, HO, x1⟩
          case measure => simp [sliceLen]; omega
        · have t1 : (x == 1) = false := by simpa using h1
          by_cases hr2 : r < 2
          · have HBAD : Hid (rOpts 60 l [] = none) := Go.Lib.hid (by
              rw [← HR.out]
              have := rOpts_bad f ls 0 acc (by have := HL.out.1; omega) (by rw [hx]; exact h0) (by rw [hx]; exact h1) (.inl (by have := HL.out.1; omega))
              simpa using this)
            clear hx h0 h1 hcell
            go_wp2
            go_ret2
            exact ⟨x1, fun _ => rfl, fun os e => by rw [pOpts_none HBAD.out] at e; cases e⟩
          · have c1 : w.cell? { block := ad.block, off := ad.off + 1 } = some (.int .u8 (g8 ls 1)) := by have := hcell 1 (by have := HL.out.1; omega); rwa [add_pos ad 1 (by omega)] at this
            have c1 := (x1.cell (p := { block := ad.block, off := ad.off + 1 }) hlt).trans c1
            have hy0 := g8_lo ls 1
            have hy1 := g8_hi ls 1
            obtain ⟨m, hm⟩ : ∃ m : Nat, (m : Int) = g8 ls 1 := ⟨(g8 ls 1).toNat, by omega⟩
            rw [← hm] at c1 hy0 hy1
            have i1 : (1 : Int) < (r : Int) := by omega
            have e1 := IntWalk.i64_in (m : Int) (by omega)
            by_cases hmb : m < 2 ∨ r < m
            · have HBAD : Hid (rOpts 60 l [] = none) := Go.Lib.hid (by
                rw [← HR.out]
                have := rOpts_bad f ls 0 acc (by have := HL.out.1; omega) (by rw [hx]; exact h0) (by rw [hx]; exact h1) (.inr (by have := HL.out.1; have e : g8 ls (0 + 1) = (m : Int) := hm.symm; rw [e]; omega))
                simpa using this)
              have hmb' : (m : Int) < 2 ∨ (2 ≤ (m : Int) ∧ (r : Int) < (m : Int)) := by omega
              have hmb2 : m < 2 ∨ r < m := hmb
              clear hx h0 h1 hcell hm hmb
              by_cases hm2 : m < 2
              · clear hmb' hmb2
                go_wp2
                go_ret2
                exact ⟨x1, fun _ => rfl, fun os e => by rw [pOpts_none HBAD.out] at e; cases e⟩
              · have hm3 : 2 ≤ m := by omega
                have hm4 : r < m := by omega
                clear hmb' hmb2 hm2
                go_wp2
                go_ret2
                exact ⟨x1, fun _ => rfl, fun os e => by rw [pOpts_none HBAD.out] at e; cases e⟩
            · have hm2 : 2 ≤ m := by omega
              have hm3 : m ≤ r := by omega
              have hE : Hid (rOpts f (ls.drop m) (acc ++ [⟨x, (ls.take m).drop 2⟩]) = rOpts 60 l []) := Go.Lib.hid (by
                rw [← HR.out]
                have := rOpts_step f ls 0 acc m hm (by have := HL.out.1; omega) (by rw [hx]; exact h0) (by rw [hx]; exact h1) hm2 (by have := HL.out.1; omega)
                simp only [Nat.zero_add, List.drop_zero, hx] at this
                exact this.symm)
              have HC : Hid (Bs w w.heap.size (if rc = m then (some ad : Option Addr) else some (ad.add m)) (ls.drop m)) := Go.Lib.hid (by rw [add_pos ad m (by omega)]; exact HBS.out.cut m rc (by have := HL.out.1; omega) (by omega))
              have HDB : Hid (Bs w w.heap.size (if rc = 2 then (some ad : Option Addr) else some { block := ad.block, off := ad.off + 2 }) ((ls.take m).drop 2)) := Go.Lib.hid ((HBS.out.take m).cut 2 rc (by have := HL.out.1; rw [List.length_take]; omega) (by omega))
              have HDL : Hid (((ls.take m).drop 2).length = m - 2) := Go.Lib.hid (by have := HL.out.1; rw [List.length_drop, List.length_take]; omega)
              have HDN : Hid ((if rc = 2 then (some ad : Option Addr) else some { block := ad.block, off := ad.off + 2 }) = none → rc - 2 = 0) := Go.Lib.hid (fun h => by split at h <;> cases h)
              have hac : acc.length ≤ 40 := by
                have h1 := HL.out.2
                have h2 : 2 * acc.length ≤ olen acc := by
                  clear h1 HR HL HO hE
                  induction acc with
                  | nil => simp
                  | cons o r ih => simp only [olen, List.length_cons]; omega
                omega
              clear hx h0 h1 hcell hm hmb
              have i2 : (2 : Int) ≤ (m : Int) := by omega
              have i3 : (m : Int) ≤ (rc : Int) := by omega
              have i4 : (m : Int) ≤ (r : Int) := by omega
              have i5 : (0 : Int) ≤ (m : Int) := by omega
              have e2 := IntWalk.i64_in x (by omega)
              go_upto_region 10 with fail
              refine wp_region_held_drew (S := (fun Y => Y.cell? ad = some (.int .u8 x) ∧ Below w.heap.size w Y)) (by kernel_rfl) ?_ (fun hHeld => ?_)
              · exact ⟨c0, below_drew x1⟩
              refine wpAnyH_take (i := 0) (oi := ⟨some 36, _, _, _, _, _⟩) (v := ?_) rfl (by kernel_rfl) (by kernel_rfl) (by kernel_rfl) (fun _ _ _ h => h) (Or.inl ⟨by rfl, ?_⟩) (by assumption) ?_
              rotate_left
              · intro w hSw; (try dsimp only at hSw); go_simp; (try with_reducible rfl)
              try simp only [Act.put, List.setIfInBounds_toArray, List.set_cons_zero, List.set_cons_succ]
              refine wpAnyH_take (i := 1) (oi := ⟨some 37, _, _, _, _, _⟩) (v := ?_) rfl (by kernel_rfl) (by kernel_rfl) (by kernel_rfl) (fun _ _ _ h => h) (Or.inl ⟨by rfl, ?_⟩) (by assumption) ?_
              rotate_left
              · intro w hSw; (try dsimp only at hSw); go_simp; (try with_reducible rfl)
              try simp only [Act.put, List.setIfInBounds_toArray, List.set_cons_zero, List.set_cons_succ]
              refine wpAnyH_take (i := 2) (oi := ⟨some 38, _, _, _, _, _⟩) (v := ?_) rfl (by kernel_rfl) (by kernel_rfl) (by kernel_rfl) (fun _ _ _ h => h) (Or.inl ⟨by rfl, ?_⟩) (by assumption) ?_
              rotate_left
              · intro w hSw; (try dsimp only at hSw); go_simp; (try with_reducible rfl)
              try simp only [Act.put, List.setIfInBounds_toArray, List.set_cons_zero, List.set_cons_succ]
              refine wpAnyH_take (i := 3) (oi := ⟨some 39, _, _, _, _, _⟩) (v := ?_) rfl (by kernel_rfl) (by kernel_rfl) (by kernel_rfl) (fun _ _ _ h => h) (Or.inl ⟨by rfl, ?_⟩) (by assumption) ?_
              rotate_left
              · intro w hSw; (try dsimp only at hSw); go_simp; (try with_reducible rfl)
              try simp only [Act.put, List.setIfInBounds_toArray, List.set_cons_zero, List.set_cons_succ]
              refine wpAnyH_take (i := 4) (oi := ⟨some 40, _, _, _, _, _⟩) (v := ?_) rfl (by kernel_rfl) (by kernel_rfl) (by kernel_rfl) (fun _ _ _ h => h) (Or.inl ⟨by rfl, ?_⟩) (by assumption) ?_
              rotate_left
              · intro w hSw; (try dsimp only at hSw); go_simp; (try with_reducible rfl)
              try simp only [Act.put, List.setIfInBounds_toArray, List.set_cons_zero, List.set_cons_succ]
              refine wpAnyH_take (i := 5) (oi := ⟨some 41, _, _, _, _, _⟩) (v := ?_) rfl (by kernel_rfl) (by kernel_rfl) (by kernel_rfl) (fun _ _ _ h => h) (Or.inl ⟨by rfl, ?_⟩) (by assumption) ?_
              rotate_left
              · intro w hSw; (try dsimp only at hSw); go_simp; (try with_reducible rfl)
              try simp only [Act.put, List.setIfInBounds_toArray, List.set_cons_zero, List.set_cons_succ]
              refine wpAnyH_take (i := 6) (oi := ⟨some 42, _, _, _, _, _⟩) (v := ?_) rfl (by kernel_rfl) (by kernel_rfl) (by kernel_rfl) (fun _ _ _ h => h) (Or.inl ⟨by rfl, ?_⟩) (by assumption) ?_
              rotate_left
              · intro w hSw; (try dsimp only at hSw); go_simp; (try with_reducible rfl)
              try simp only [Act.put, List.setIfInBounds_toArray, List.set_cons_zero, List.set_cons_succ]
              refine wpAnyH_take (i := 7) (oi := ⟨some 43, _, _, _, _, _⟩) (v := ?_) rfl (by kernel_rfl) (by kernel_rfl) (by kernel_rfl) (fun _ _ _ h => h) (Or.inl ⟨by rfl, ?_⟩) (by assumption) ?_
              rotate_left
              · intro w hSw; (try dsimp only at hSw); go_simp; (try with_reducible rfl)
              try simp only [Act.put, List.setIfInBounds_toArray, List.set_cons_zero, List.set_cons_succ]
              refine wpAnyH_ready (rs := [8]) (by kernel_rfl) (by simp) (AllReadyH.cons (o := ⟨some 44, _, _, _, _, _⟩) rfl (fun Kc hKc => ?_) AllReadyH.nil)
              go_simp
              go_at_call 83; refine (cclone _ (m - 2) (rc - 2) ((ls.take m).drop 2) w.heap.size _ HDL.out (HDB.out.below (below_drew x1)) (below_drew x1).size (by omega) HDN.out (by omega)).mono ?_; rintro e w3 ⟨A3, c3, rfl, hg3⟩; have x3 : Below w.heap.size w w3 := (below_drew x1).trans (hg3.below.mono x1.size); have c03 := (hg3.below.cell (p := ad) (Nat.lt_of_lt_of_le hlt x1.size)).trans c0; have o3 := (HO.out.keep (below_drew (Below.refl _ _))).keep hg3.below
              clear hHeld
              refine hKc.out _ _ ?_ (fun hHeld => ?_)
              · (try dsimp only); exact ⟨c03, x3⟩
              clear hKc Kc
              try simp only [Act.put, List.setIfInBounds_toArray, List.set_cons_zero, List.set_cons_succ]
              refine wpAnyH_take (i := 9) (oi := ⟨some 45, _, _, _, _, _⟩) (v := ?_) rfl (by kernel_rfl) (by kernel_rfl) (by kernel_rfl) (fun _ _ _ h => h) (Or.inl ⟨by rfl, ?_⟩) (by assumption) ?_
              rotate_left
              · intro w hSw; (try dsimp only at hSw); go_simp; (try with_reducible rfl)
              try simp only [Act.put, List.setIfInBounds_toArray, List.set_cons_zero, List.set_cons_succ]
              refine wpAnyH_ready (rs := [10]) (by kernel_rfl) (by simp) (AllReadyH.cons (o := ⟨some 46, _, _, _, _, _⟩) rfl (fun Kc hKc => ?_) AllReadyH.nil)
              go_simp
              have x4 := x3.alloc x3.size (.cells #[.int .i64 x, .slice A3 (m - 2) c3] 86); have y4 : Below w3.heap.size w3 (w3.alloc (.cells #[.int .i64 x, .slice A3 (m - 2) c3] 86)) := (Below.refl _ _).alloc (Nat.le_refl _) _; have c04 := (y4.cell (p := ad) (Nat.lt_of_lt_of_le hlt x3.size)).trans c03; have o4 := o3.keep y4; have q40 : (w3.alloc (.cells #[.int .i64 x, .slice A3 (m - 2) c3] 86)).cell? ⟨w3.heap.size, 0, none⟩ = some (.int .i64 x) := by simp [go_sem]
              have q41 : (w3.alloc (.cells #[.int .i64 x, .slice A3 (m - 2) c3] 86)).cell? ⟨w3.heap.size, 1, none⟩ = some (.slice A3 (m - 2) c3) := by simp [go_sem]
              generalize w3.alloc (.cells #[.int .i64 x, .slice A3 (m - 2) c3] 86) = w4 at *
              clear hHeld
              refine hKc.out _ _ ?_ (fun hHeld => ?_)
              · (try dsimp only); exact ⟨c04, x4⟩
              clear hKc Kc
              try simp only [Act.put, List.setIfInBounds_toArray, List.set_cons_zero, List.set_cons_succ]
              refine wpAnyH_ready (rs := [11]) (by kernel_rfl) (by simp) (AllReadyH.cons (o := ⟨some 47, _, _, _, _, _⟩) rfl (fun Kc hKc => ?_) AllReadyH.nil)
              refine opS rfl (.tmp 36) (.tmp 46) rfl w.heap.size (.slice Ao acc.length co) acc rfl o4 w3.heap.size 1 rfl x A3 (m - 2) c3 ((ls.take m).drop 2) q40 q41 HDL.out ((hg3.bs.below y4).more y4.size) (by have := hg3.len; rw [HDL.out] at this; exact this) hg3.cap hg3.nil ?_ (by omega) x4.size ?_
              · intro _ ad3 e3
                have k2 := hg3.fresh ad3 e3
                have k3 : wr.heap.size ≤ ad3.block := k2
                refine ⟨fun hov => ?_, Nat.le_trans x1.size k3⟩
                have k1 := (HO.out.lt _ hov).2
                omega
              intro v5 w5 o5 b5
              have x5 := x4.trans b5
              have c05 := (b5.cell (p := ad) hlt).trans c04
              clear hHeld
              refine hKc.out _ _ ?_ (fun hHeld => ?_)
              · (try dsimp only); exact ⟨c05, x5⟩
              clear hKc Kc
              try simp only [Act.put, List.setIfInBounds_toArray, List.set_cons_zero, List.set_cons_succ]
              refine wpAnyH_take (i := 12) (oi := ⟨some 4, _, _, _, _, _⟩) (v := ?_) rfl (by kernel_rfl) (by kernel_rfl) (by kernel_rfl) (fun _ _ _ h => h) (Or.inl ⟨by rfl, ?_⟩) (by assumption) ?_
              rotate_left
              · intro w hSw; (try dsimp only at hSw); go_simp; (try with_reducible rfl)
              try simp only [Act.put, List.setIfInBounds_toArray, List.set_cons_zero, List.set_cons_succ]
              refine wpAnyH_done (by kernel_rfl) ?_ _
              obtain ⟨A5, c5, rfl, _, _, _, _⟩ := o5.form
              have HO5 := Go.Lib.hid o5
              clear o5 o4 o3 hg3 b5 x3 x4 x1 c0 c03 c04 c05 y4 q40 q41 hHeld
              go_wp2
              go_roundw
              case rel =>
                exact ⟨ls.drop m, _, r - m, rc - m, acc ++ [⟨x, (ls.take m).drop 2⟩], A5, c5, f, rfl, rfl, hE, Go.Lib.hid ⟨by rw [List.length_drop, HL.out.1], by have h1 := HL.out.2; have h2 := HDL.out; rw [olen_append]; simp only [olen]; rw [h2]; omega⟩, by omega, by omega, by omega, by omega, HC, HO5, x5⟩
              case measure => simp [sliceLen]; omega
end Go.Proofs.Ytmgkkgpdnopeaaa

/- The contract of package tcp's read. -/
namespace Go.Proofs.Ytmgkkgpdnopeaaa
open Go.ChangeShapes Go.WideShapes Go.ChangeAt Go.RowKit
set_option linter.unusedVariables false
set_option linter.unusedSimpArgs false

/-- a world in which an empty segment lies in the newest block. -/
abbrev Zt (w : World) : World := w.alloc (.cells #[.int .i64 0, .int .i64 0, .int .u32 0, .int .u32 0, .int .i64 0, .int .i64 0, .int .i64 0, .slice none 0 0, .slice none 0 0] 54)
theorem Zt.below {w X : World} (x : Below (w.heap.size + 1) (Zt w) X) : Below w.heap.size w X := ((Below.refl _ _).alloc (Nat.le_refl _) _).trans (x.mono (Nat.le_succ _))
theorem Zt.size {w X : World} (x : Below (w.heap.size + 1) (Zt w) X) : w.heap.size + 1 ≤ X.heap.size := by have := x.size; simpa using this
theorem zt_of {w w' : World} (h : Below (w.heap.size + 1) (Zt w) w') :
    (w'.cell? ⟨w.heap.size, 0, none⟩ = some (.int .i64 0) ∧ w'.cell? ⟨w.heap.size, 1, none⟩ = some (.int .i64 0) ∧ w'.cell? ⟨w.heap.size, 2, none⟩ = some (.int .u32 0) ∧ w'.cell? ⟨w.heap.size, 3, none⟩ = some (.int .u32 0) ∧ w'.cell? ⟨w.heap.size, 4, none⟩ = some (.int .i64 0) ∧ w'.cell? ⟨w.heap.size, 5, none⟩ = some (.int .i64 0) ∧ w'.cell? ⟨w.heap.size, 6, none⟩ = some (.int .i64 0) ∧ w'.cell? ⟨w.heap.size, 7, none⟩ = some (.slice none 0 0) ∧ w'.cell? ⟨w.heap.size, 8, none⟩ = some (.slice none 0 0)) ∧
    (∀ o, w'.frozen? ⟨w.heap.size, o, none⟩ = false) := by
  have hc := fun (o : Nat) => Below.cell h (p := ⟨w.heap.size, o, none⟩) (Nat.lt_succ_self _)
  refine ⟨⟨?_, ?_, ?_, ?_, ?_, ?_, ?_, ?_, ?_⟩, fun o => ?_⟩
  · refine (hc _).trans ?_; simp [go_sem]
  · refine (hc _).trans ?_; simp [go_sem]
  · refine (hc _).trans ?_; simp [go_sem]
  · refine (hc _).trans ?_; simp [go_sem]
  · refine (hc _).trans ?_; simp [go_sem]
  · refine (hc _).trans ?_; simp [go_sem]
  · refine (hc _).trans ?_; simp [go_sem]
  · refine (hc _).trans ?_; simp [go_sem]
  · refine (hc _).trans ?_; simp [go_sem]
  · refine (Below.frozen h (p := ⟨w.heap.size, o, none⟩) (Nat.lt_succ_self _)).trans ?_; simp [go_sem]
/-- nine cells of block g are put. -/
abbrev set9 (w : World) (g : Nat) (u0 u1 u2 u3 u4 u5 u6 u7 u8 : Value) : World := (((((((((w.setCell ⟨g, 0, none⟩ u0).setCell ⟨g, 1, none⟩ u1).setCell ⟨g, 2, none⟩ u2).setCell ⟨g, 3, none⟩ u3).setCell ⟨g, 4, none⟩ u4).setCell ⟨g, 5, none⟩ u5).setCell ⟨g, 6, none⟩ u6).setCell ⟨g, 7, none⟩ u7).setCell ⟨g, 8, none⟩ u8)
theorem below_s9 {C g : Nat} {a w : World} (h : Below C a w) (hg : C ≤ g) (u0 u1 u2 u3 u4 u5 u6 u7 u8 : Value) : Below C a (set9 w g u0 u1 u2 u3 u4 u5 u6 u7 u8) := (Below.setCell (Below.setCell (Below.setCell (Below.setCell (Below.setCell (Below.setCell (Below.setCell (Below.setCell (Below.setCell h (p := ⟨g, 0, none⟩) hg u0) (p := ⟨g, 1, none⟩) hg u1) (p := ⟨g, 2, none⟩) hg u2) (p := ⟨g, 3, none⟩) hg u3) (p := ⟨g, 4, none⟩) hg u4) (p := ⟨g, 5, none⟩) hg u5) (p := ⟨g, 6, none⟩) hg u6) (p := ⟨g, 7, none⟩) hg u7) (p := ⟨g, 8, none⟩) hg u8)
theorem size_s9 (w : World) (g : Nat) (u0 u1 u2 u3 u4 u5 u6 u7 u8 : Value) : (set9 w g u0 u1 u2 u3 u4 u5 u6 u7 u8).heap.size = w.heap.size := by simp [set9]
theorem BsF.set9 {w : World} {lo hi : Nat} {A : Option Addr} {l : List UInt8} (h : BsF w lo hi A l) {g : Nat} (hg : g < lo) (u0 u1 u2 u3 u4 u5 u6 u7 u8 : Value) : BsF (set9 w g u0 u1 u2 u3 u4 u5 u6 u7 u8) lo hi A l :=
  ((((((((h.set hg 0 u0).set hg 1 u1).set hg 2 u2).set hg 3 u3).set hg 4 u4).set hg 5 u5).set hg 6 u6).set hg 7 u7).set hg 8 u8
theorem OsF.set9 {w : World} {lo hi : Nat} {A : Option Addr} {os : List Op} (h : OsF w lo hi A os) {g : Nat} (hg : g < lo) (u0 u1 u2 u3 u4 u5 u6 u7 u8 : Value) : OsF (Go.Proofs.Ytmgkkgpdnopeaaa.set9 w g u0 u1 u2 u3 u4 u5 u6 u7 u8) lo hi A os :=
  ((((((((h.set hg 0 u0).set hg 1 u1).set hg 2 u2).set hg 3 u3).set hg 4 u4).set hg 5 u5).set hg 6 u6).set hg 7 u7).set hg 8 u8
theorem BsF.more {w : World} {lo hi hi' : Nat} {A : Option Addr} {l : List UInt8} (h : BsF w lo hi A l) (hh : hi ≤ hi') : BsF w lo hi' A l := by
  rcases h with c | ⟨ad, e, c1, c2, c3⟩
  · exact .inl c
  · exact .inr ⟨ad, e, c1, by omega, c3⟩
theorem BsF.lower {w : World} {lo lo' hi : Nat} {A : Option Addr} {l : List UInt8} (h : BsF w lo hi A l) (hh : lo' ≤ lo) : BsF w lo' hi A l := by
  rcases h with c | ⟨ad, e, c1, c2, c3⟩
  · exact .inl c
  · exact .inr ⟨ad, e, by omega, c2, c3⟩

/-- a segment's parts out of its bytes. -/
def rdT (l : List UInt8) (k : Nat) (os : List Op) : Tc := ⟨wd l 0, wd l 2, ad4 l 4, ad4 l 8, g8 l 13, wd l 14, wd l 18, os, l.drop k⟩
structure ReadT (w w' : World) (body : List UInt8) (Ab : Option Addr) (cb : Nat) : Prop where
  len : body.length ≤ cb
  cap : cb ≤ 9223372036854775807
  nil : Ab = none → cb = 0
  bs : BsF w' w.heap.size w'.heap.size Ab body
  below : Below w.heap.size w w'

theorem tword_x (A : Option Addr) (n c : Nat) (l : List UInt8) (w Y : World) (hn : l.length = n) (h : Bs w w.heap.size A l) (k : Nat) (ki : Int) (hki : ki = (k : Int)) (hk : k + 1 < n) (hn2 : n ≤ 16777216) (y : Below (w.heap.size + 1) (Zt w) Y) :
    Calls Try.prog 84 #[.slice A n c, .int .i64 ki] Y fun e w' => e = .returned (.int .u16 (wd l k)) ∧ Below (w.heap.size + 1) (Zt w) w' :=
  (tword A n c l w.heap.size Y hn (h.below (Zt.below y)) k ki hki hk hn2).mono fun _ _ ⟨a, m, b⟩ => ⟨a, b ▸ below_dn y m⟩
theorem tlong_x (A : Option Addr) (n c : Nat) (l : List UInt8) (w Y : World) (hn : l.length = n) (h : Bs w w.heap.size A l) (k : Nat) (ki : Int) (hki : ki = (k : Int)) (hk : k + 3 < n) (hn2 : n ≤ 16777216) (y : Below (w.heap.size + 1) (Zt w) Y) :
    Calls Try.prog 85 #[.slice A n c, .int .i64 ki] Y fun e w' => e = .returned (.int .u32 (ad4 l k)) ∧ Below (w.heap.size + 1) (Zt w) w' :=
  (tlong A n c l w.heap.size Y hn (h.below (Zt.below y)) k ki hki hk hn2).mono fun _ _ ⟨a, m, b⟩ => ⟨a, b ▸ below_dn y m⟩

set_option maxRecDepth 100000 in
set_option maxHeartbeats 8000000 in
theorem tread (A : Option Addr) (n c : Nat) (l : List UInt8) (w : World) (hn : l.length = n) (h : Bs w w.heap.size A l) (hn2 : n ≤ 16777216) (h20 : 20 ≤ n) (hnc : n ≤ c) (hc63 : c ≤ 9223372036854775807) (k : Nat) (hk0 : 20 ≤ k) (hk : k ≤ n) (os : List Op) (Ao : Option Addr) (no co : Nat) (hno : os.length = no) :
    Calls Try.prog 70 #[.slice A n c, .int .i64 k, .slice Ao no co] w fun e w' => ∃ Ab cb, e = .returned (tcV (rdT l k os) Ao co Ab cb) ∧ ReadT w w' (l.drop k) Ab cb := by
  obtain ⟨ad, rfl, hlt, hcell⟩ := g8_cells h (by omega)
  have c13 : w.cell? ⟨ad.block, ad.off + 13, none⟩ = some (.int .u8 (g8 l 13)) := by have := hcell 13 (by omega); rwa [add_pos ad 13 (by omega)] at this
  clear hcell
  have HL := Go.Lib.hid h
  have HN := Go.Lib.hid hn
  have HNO := Go.Lib.hid hno
  have g0 := g8_lo l 13
  have g1 := g8_hi l 13
  have hkk : l.drop k = l.drop k := rfl
  have HDB : Hid (Bs w w.heap.size (if c = k then (some ad : Option Addr) else some (ad.add k)) (l.drop k)) := Go.Lib.hid (by rw [add_pos ad k (by omega)]; exact h.cut k c (by omega) (by omega))
  have HDN : Hid ((if c = k then (some ad : Option Addr) else some (ad.add k)) = none → c - k = 0) := Go.Lib.hid (fun h => by split at h <;> cases h)
  have HDL : Hid ((l.drop k).length = n - k) := Go.Lib.hid (by rw [List.length_drop, hn])
  have K13 : ∀ Y, Below w.heap.size w Y → Y.cell? ⟨ad.block, ad.off + 13, none⟩ = some (.int .u8 (g8 l 13)) ∧ Below w.heap.size w Y := fun Y y => ⟨(y.cell (p := ⟨ad.block, ad.off + 13, none⟩) hlt).trans c13, y⟩
  have i13 : (13 : Int) < (n : Int) := by omega
  have i1 : (k : Int) ≤ (n : Int) := by omega
  have i2 : (k : Int) ≤ (c : Int) := by omega
  have i3 : (0 : Int) ≤ (k : Int) := by omega
  have r13 := IntWalk.i64_in (g8 l 13) (by omega)
  have r0 := IntWalk.i64_in (wd l 0) (by have := wd_lo l 0; have := wd_hi l 0; omega)
  have r2 := IntWalk.i64_in (wd l 2) (by have := wd_lo l 2; have := wd_hi l 2; omega)
  have r14 := IntWalk.i64_in (wd l 14) (by have := wd_lo l 14; have := wd_hi l 14; omega)
  have r18 := IntWalk.i64_in (wd l 18) (by have := wd_lo l 18; have := wd_hi l 18; omega)
  clear hn h hno hkk g0 g1
  go_enter Try.func70, Try.ntmps70
  go_upto_region 1 with fail
  have x0 : Below (w.heap.size + 1) (Zt w) (Zt w) := Below.refl _ _
  have c13' := (K13 _ (Zt.below x0)).1
  refine wp_region_held_drew (S := (fun Y => Y.cell? ⟨ad.block, ad.off + 13, none⟩ = some (.int .u8 (g8 l 13)) ∧ Below w.heap.size w Y)) (by kernel_rfl) ?_ (fun hHeld => ?_)
  · exact K13 _ (Zt.below (below_drew x0))
  refine wpAnyH_take (i := 0) (oi := ⟨some 7, _, _, _, _, _⟩) (v := ?_) rfl (by kernel_rfl) (by kernel_rfl) (by kernel_rfl) (fun _ _ _ h => h) (Or.inl ⟨by rfl, ?_⟩) (by assumption) ?_
  rotate_left
  · intro w hSw; (try dsimp only at hSw); go_simp; (try with_reducible rfl)
  try simp only [Act.put, List.setIfInBounds_toArray, List.set_cons_zero, List.set_cons_succ]
  refine wpAnyH_take (i := 3) (oi := ⟨some 10, _, _, _, _, _⟩) (v := ?_) rfl (by kernel_rfl) (by kernel_rfl) (by kernel_rfl) (fun _ _ _ h => h) (Or.inl ⟨by rfl, ?_⟩) (by assumption) ?_
  rotate_left
  · intro w hSw; (try dsimp only at hSw); go_simp; (try with_reducible rfl)
  try simp only [Act.put, List.setIfInBounds_toArray, List.set_cons_zero, List.set_cons_succ]
  refine wpAnyH_take (i := 6) (oi := ⟨some 13, _, _, _, _, _⟩) (v := ?_) rfl (by kernel_rfl) (by kernel_rfl) (by kernel_rfl) (fun _ _ _ h => h) (Or.inl ⟨by rfl, ?_⟩) (by assumption) ?_
  rotate_left
  · intro w hSw; (try dsimp only at hSw); go_simp; (try with_reducible rfl)
  try simp only [Act.put, List.setIfInBounds_toArray, List.set_cons_zero, List.set_cons_succ]
  refine wpAnyH_take (i := 8) (oi := ⟨some 15, _, _, _, _, _⟩) (v := ?_) rfl (by kernel_rfl) (by kernel_rfl) (by kernel_rfl) (fun _ _ _ h => h) (Or.inl ⟨by rfl, ?_⟩) (by assumption) ?_
  rotate_left
  · intro w hSw; (try dsimp only at hSw); go_simp; (try with_reducible rfl)
  try simp only [Act.put, List.setIfInBounds_toArray, List.set_cons_zero, List.set_cons_succ]
  refine wpAnyH_take (i := 10) (oi := ⟨some 17, _, _, _, _, _⟩) (v := ?_) rfl (by kernel_rfl) (by kernel_rfl) (by kernel_rfl) (fun _ _ _ h => h) (Or.inl ⟨by rfl, ?_⟩) (by assumption) ?_
  rotate_left
  · intro w hSw; (try dsimp only at hSw); go_simp; (try with_reducible rfl)
  try simp only [Act.put, List.setIfInBounds_toArray, List.set_cons_zero, List.set_cons_succ]
  refine wpAnyH_take (i := 11) (oi := ⟨some 18, _, _, _, _, _⟩) (v := ?_) rfl (by kernel_rfl) (by kernel_rfl) (by kernel_rfl) (fun _ _ _ h => h) (Or.inl ⟨by rfl, ?_⟩) (by assumption) ?_
  rotate_left
  · intro w hSw; (try dsimp only at hSw); go_simp; (try with_reducible rfl)
  try simp only [Act.put, List.setIfInBounds_toArray, List.set_cons_zero, List.set_cons_succ]
  refine wpAnyH_take (i := 12) (oi := ⟨some 19, _, _, _, _, _⟩) (v := ?_) rfl (by kernel_rfl) (by kernel_rfl) (by kernel_rfl) (fun _ _ _ h => h) (Or.inl ⟨by rfl, ?_⟩) (by assumption) ?_
  rotate_left
  · intro w hSw; (try dsimp only at hSw); go_simp; (try with_reducible rfl)
  try simp only [Act.put, List.setIfInBounds_toArray, List.set_cons_zero, List.set_cons_succ]
  refine wpAnyH_take (i := 13) (oi := ⟨some 20, _, _, _, _, _⟩) (v := ?_) rfl (by kernel_rfl) (by kernel_rfl) (by kernel_rfl) (fun _ _ _ h => h) (Or.inl ⟨by rfl, ?_⟩) (by assumption) ?_
  rotate_left
  · intro w hSw; (try dsimp only at hSw); go_simp; (try with_reducible rfl)
  try simp only [Act.put, List.setIfInBounds_toArray, List.set_cons_zero, List.set_cons_succ]
  refine wpAnyH_take (i := 14) (oi := ⟨some 21, _, _, _, _, _⟩) (v := ?_) rfl (by kernel_rfl) (by kernel_rfl) (by kernel_rfl) (fun _ _ _ h => h) (Or.inl ⟨by rfl, ?_⟩) (by assumption) ?_
  rotate_left
  · intro w hSw; (try dsimp only at hSw); go_simp; (try with_reducible rfl)
  try simp only [Act.put, List.setIfInBounds_toArray, List.set_cons_zero, List.set_cons_succ]
  refine wpAnyH_take (i := 17) (oi := ⟨some 24, _, _, _, _, _⟩) (v := ?_) rfl (by kernel_rfl) (by kernel_rfl) (by kernel_rfl) (fun _ _ _ h => h) (Or.inl ⟨by rfl, ?_⟩) (by assumption) ?_
  rotate_left
  · intro w hSw; (try dsimp only at hSw); go_simp; (try with_reducible rfl)
  try simp only [Act.put, List.setIfInBounds_toArray, List.set_cons_zero, List.set_cons_succ]
  refine wpAnyH_take (i := 20) (oi := ⟨some 27, _, _, _, _, _⟩) (v := ?_) rfl (by kernel_rfl) (by kernel_rfl) (by kernel_rfl) (fun _ _ _ h => h) (Or.inl ⟨by rfl, ?_⟩) (by assumption) ?_
  rotate_left
  · intro w hSw; (try dsimp only at hSw); go_simp; (try with_reducible rfl)
  try simp only [Act.put, List.setIfInBounds_toArray, List.set_cons_zero, List.set_cons_succ]
  refine wpAnyH_take (i := 21) (oi := ⟨some 28, _, _, _, _, _⟩) (v := ?_) rfl (by kernel_rfl) (by kernel_rfl) (by kernel_rfl) (fun _ _ _ h => h) (Or.inl ⟨by rfl, ?_⟩) (by assumption) ?_
  rotate_left
  · intro w hSw; (try dsimp only at hSw); go_simp; (try with_reducible rfl)
  try simp only [Act.put, List.setIfInBounds_toArray, List.set_cons_zero, List.set_cons_succ]
  refine wpAnyH_take (i := 22) (oi := ⟨some 29, _, _, _, _, _⟩) (v := ?_) rfl (by kernel_rfl) (by kernel_rfl) (by kernel_rfl) (fun _ _ _ h => h) (Or.inl ⟨by rfl, ?_⟩) (by assumption) ?_
  rotate_left
  · intro w hSw; (try dsimp only at hSw); go_simp; (try with_reducible rfl)
  try simp only [Act.put, List.setIfInBounds_toArray, List.set_cons_zero, List.set_cons_succ]
  refine wpAnyH_take (i := 23) (oi := ⟨some 30, _, _, _, _, _⟩) (v := ?_) rfl (by kernel_rfl) (by kernel_rfl) (by kernel_rfl) (fun _ _ _ h => h) (Or.inl ⟨by rfl, ?_⟩) (by assumption) ?_
  rotate_left
  · intro w hSw; (try dsimp only at hSw); go_simp; (try with_reducible rfl)
  try simp only [Act.put, List.setIfInBounds_toArray, List.set_cons_zero, List.set_cons_succ]
  refine wpAnyH_ready (rs := [1]) (by kernel_rfl) (by simp) (AllReadyH.cons (o := ⟨some 8, _, _, _, _, _⟩) rfl (fun Kc hKc => ?_) AllReadyH.nil)
  go_simp
  go_at_call 84; refine (tword_x (some ad) n c l w _ HN.out HL.out 0 0 rfl (by omega) hn2 (below_drew x0)).mono ?_; rintro e v1 ⟨rfl, x1⟩
  clear hHeld
  refine hKc.out _ _ ?_ (fun hHeld => ?_)
  · (try dsimp only); exact K13 _ (Zt.below x1)
  clear hKc Kc
  try simp only [Act.put, List.setIfInBounds_toArray, List.set_cons_zero, List.set_cons_succ]
  refine wpAnyH_take (i := 2) (oi := ⟨some 9, _, _, _, _, _⟩) (v := ?_) rfl (by kernel_rfl) (by kernel_rfl) (by kernel_rfl) (fun _ _ _ h => h) (Or.inl ⟨by rfl, ?_⟩) (by assumption) ?_
  rotate_left
  · intro w hSw; (try dsimp only at hSw); go_simp; (try with_reducible rfl)
  try simp only [Act.put, List.setIfInBounds_toArray, List.set_cons_zero, List.set_cons_succ]
  refine wpAnyH_ready (rs := [4]) (by kernel_rfl) (by simp) (AllReadyH.cons (o := ⟨some 11, _, _, _, _, _⟩) rfl (fun Kc hKc => ?_) AllReadyH.nil)
  go_simp
  go_at_call 84; refine (tword_x (some ad) n c l w _ HN.out HL.out 2 2 rfl (by omega) hn2 x1).mono ?_; rintro e v2 ⟨rfl, x2⟩
  clear hHeld
  refine hKc.out _ _ ?_ (fun hHeld => ?_)
  · (try dsimp only); exact K13 _ (Zt.below x2)
  clear hKc Kc
  try simp only [Act.put, List.setIfInBounds_toArray, List.set_cons_zero, List.set_cons_succ]
  refine wpAnyH_take (i := 5) (oi := ⟨some 12, _, _, _, _, _⟩) (v := ?_) rfl (by kernel_rfl) (by kernel_rfl) (by kernel_rfl) (fun _ _ _ h => h) (Or.inl ⟨by rfl, ?_⟩) (by assumption) ?_
  rotate_left
  · intro w hSw; (try dsimp only at hSw); go_simp; (try with_reducible rfl)
  try simp only [Act.put, List.setIfInBounds_toArray, List.set_cons_zero, List.set_cons_succ]
  refine wpAnyH_ready (rs := [7]) (by kernel_rfl) (by simp) (AllReadyH.cons (o := ⟨some 14, _, _, _, _, _⟩) rfl (fun Kc hKc => ?_) AllReadyH.nil)
  go_simp
  go_at_call 85; refine (tlong_x (some ad) n c l w _ HN.out HL.out 4 4 rfl (by omega) hn2 x2).mono ?_; rintro e v3 ⟨rfl, x3⟩
  clear hHeld
  refine hKc.out _ _ ?_ (fun hHeld => ?_)
  · (try dsimp only); exact K13 _ (Zt.below x3)
  clear hKc Kc
  try simp only [Act.put, List.setIfInBounds_toArray, List.set_cons_zero, List.set_cons_succ]
  refine wpAnyH_ready (rs := [9]) (by kernel_rfl) (by simp) (AllReadyH.cons (o := ⟨some 16, _, _, _, _, _⟩) rfl (fun Kc hKc => ?_) AllReadyH.nil)
  go_simp
  go_at_call 85; refine (tlong_x (some ad) n c l w _ HN.out HL.out 8 8 rfl (by omega) hn2 x3).mono ?_; rintro e v4 ⟨rfl, x4⟩
  clear hHeld
  refine hKc.out _ _ ?_ (fun hHeld => ?_)
  · (try dsimp only); exact K13 _ (Zt.below x4)
  clear hKc Kc
  try simp only [Act.put, List.setIfInBounds_toArray, List.set_cons_zero, List.set_cons_succ]
  refine wpAnyH_ready (rs := [15]) (by kernel_rfl) (by simp) (AllReadyH.cons (o := ⟨some 22, _, _, _, _, _⟩) rfl (fun Kc hKc => ?_) AllReadyH.nil)
  go_simp
  go_at_call 84; refine (tword_x (some ad) n c l w _ HN.out HL.out 14 14 rfl (by omega) hn2 x4).mono ?_; rintro e v5 ⟨rfl, x5⟩
  clear hHeld
  refine hKc.out _ _ ?_ (fun hHeld => ?_)
  · (try dsimp only); exact K13 _ (Zt.below x5)
  clear hKc Kc
  try simp only [Act.put, List.setIfInBounds_toArray, List.set_cons_zero, List.set_cons_succ]
  refine wpAnyH_take (i := 16) (oi := ⟨some 23, _, _, _, _, _⟩) (v := ?_) rfl (by kernel_rfl) (by kernel_rfl) (by kernel_rfl) (fun _ _ _ h => h) (Or.inl ⟨by rfl, ?_⟩) (by assumption) ?_
  rotate_left
  · intro w hSw; (try dsimp only at hSw); go_simp; (try with_reducible rfl)
  try simp only [Act.put, List.setIfInBounds_toArray, List.set_cons_zero, List.set_cons_succ]
  refine wpAnyH_ready (rs := [18]) (by kernel_rfl) (by simp) (AllReadyH.cons (o := ⟨some 25, _, _, _, _, _⟩) rfl (fun Kc hKc => ?_) AllReadyH.nil)
  go_simp
  go_at_call 84; refine (tword_x (some ad) n c l w _ HN.out HL.out 18 18 rfl (by omega) hn2 x5).mono ?_; rintro e v6 ⟨rfl, x6⟩
  clear hHeld
  refine hKc.out _ _ ?_ (fun hHeld => ?_)
  · (try dsimp only); exact K13 _ (Zt.below x6)
  clear hKc Kc
  try simp only [Act.put, List.setIfInBounds_toArray, List.set_cons_zero, List.set_cons_succ]
  refine wpAnyH_take (i := 19) (oi := ⟨some 26, _, _, _, _, _⟩) (v := ?_) rfl (by kernel_rfl) (by kernel_rfl) (by kernel_rfl) (fun _ _ _ h => h) (Or.inl ⟨by rfl, ?_⟩) (by assumption) ?_
  rotate_left
  · intro w hSw; (try dsimp only at hSw); go_simp; (try with_reducible rfl)
  try simp only [Act.put, List.setIfInBounds_toArray, List.set_cons_zero, List.set_cons_succ]
  refine wpAnyH_ready (rs := [24]) (by kernel_rfl) (by simp) (AllReadyH.cons (o := ⟨some 31, _, _, _, _, _⟩) rfl (fun Kc hKc => ?_) AllReadyH.nil)
  go_simp
  go_at_call 83; refine (cclone _ (n - k) (c - k) (l.drop k) w.heap.size _ HDL.out (HDB.out.below (Zt.below x6)) (Zt.below x6).size (by omega) HDN.out (by omega)).mono ?_; rintro e w3 ⟨Ab, cb, rfl, hg3⟩; have x7 : Below (w.heap.size + 1) (Zt w) w3 := x6.trans (hg3.below.mono (Zt.size x6)); obtain ⟨⟨z0, z1, z2, z3, z4, z5, z6, z7, z8⟩, zf⟩ := zt_of x7
  clear hHeld
  refine hKc.out _ _ ?_ (fun hHeld => ?_)
  · (try dsimp only); exact K13 _ (Zt.below x7)
  clear hKc Kc
  try simp only [Act.put, List.setIfInBounds_toArray, List.set_cons_zero, List.set_cons_succ]
  refine wpAnyH_take (i := 25) (oi := ⟨some 32, _, _, _, _, _⟩) (v := ?_) rfl (by kernel_rfl) (by kernel_rfl) (by kernel_rfl) (fun _ _ _ h => h) (Or.inl ⟨by rfl, ?_⟩) (by assumption) ?_
  rotate_left
  · intro w hSw; (try dsimp only at hSw); go_simp; (try with_reducible rfl)
  try simp only [Act.put, List.setIfInBounds_toArray, List.set_cons_zero, List.set_cons_succ]
  refine wpAnyH_ready (rs := [26]) (by kernel_rfl) (by simp) (AllReadyH.cons (o := ⟨none, _, _, _, _, _⟩) rfl (fun Kc hKc => ?_) AllReadyH.nil)
  go_simp
  have yF := below_s9 (Zt.below x7) (Nat.le_refl _) (.int .i64 (wd l 0)) (.int .i64 (wd l 2)) (.int .u32 (ad4 l 4)) (.int .u32 (ad4 l 8)) (.int .i64 (g8 l 13)) (.int .i64 (wd l 14)) (.int .i64 (wd l 18)) (.slice Ao no co) (.slice Ab (n - k) cb)
  clear hHeld
  refine hKc.out _ _ ?_ (fun hHeld => ?_)
  · (try dsimp only); exact K13 _ yF
  clear hKc Kc
  try simp only [Act.put, List.setIfInBounds_toArray, List.set_cons_zero, List.set_cons_succ]
  refine wpAnyH_done (by kernel_rfl) ?_ _
  have HV : (.agg #[.int .i64 (wd l 0), .int .i64 (wd l 2), .int .u32 (ad4 l 4), .int .u32 (ad4 l 8), .int .i64 (g8 l 13), .int .i64 (wd l 14), .int .i64 (wd l 18), .slice Ao no co, .slice Ab (n - k) cb] : Value) = tcV (rdT l k os) Ao co Ab cb := by
    have e1 := HDL.out
    have e2 := HNO.out
    rw [← e1, ← e2]
    rfl
  have HV' := Go.Lib.hid HV
  clear HV
  have HG : Hid (ReadT w (set9 w3 w.heap.size (.int .i64 (wd l 0)) (.int .i64 (wd l 2)) (.int .u32 (ad4 l 4)) (.int .u32 (ad4 l 8)) (.int .i64 (g8 l 13)) (.int .i64 (wd l 14)) (.int .i64 (wd l 18)) (.slice Ao no co) (.slice Ab (n - k) cb)) (l.drop k) Ab cb) := by
    have s6 := Zt.size x6
    have hf : BsF w3 (w.heap.size + 1) w3.heap.size Ab (l.drop k) := BsF.of hg3.bs (fun _ ad e => Nat.le_trans s6 (hg3.fresh ad e))
    refine Go.Lib.hid ⟨hg3.len, hg3.cap, hg3.nil, ?_, yF⟩
    rw [size_s9]
    exact (hf.set9 (Nat.lt_succ_self _) _ _ _ _ _ _ _ _ _).lower (Nat.le_succ _)
  clear hg3 yF x7 x6 x5 x4 x3 x2 x1 x0 hHeld
  go_wp2
  all_goals
    refine bodyPost_ret (v := tcV (rdT l k os) Ao co Ab cb) ?_ rfl ⟨Ab, cb, rfl, HG.out⟩
    rw [← HV'.out]
    simp [results, Try.results70, go_sem, z0, z1, z2, z3, z4, z5, z6, z7, z8]
end Go.Proofs.Ytmgkkgpdnopeaaa

/- The contract of package tcp's Parse. -/
namespace Go.Proofs.Ytmgkkgpdnopeaaa
open Go.ChangeShapes Go.WideShapes Go.ChangeAt Go.RowKit
set_option linter.unusedVariables false
set_option linter.unusedSimpArgs false

/-- what Parse hands back. -/
structure GivT (w w' : World) (t : Tc) (Ao : Option Addr) (co : Nat) (Ab : Option Addr) (cb : Nat) : Prop where
  is : TcIn w' w'.heap.size t Ao co Ab cb
  below : Below w.heap.size w w'
structure ParsT (w : World) (q : Int × Tc) (e : Ending) (w' : World) : Prop where
  ex : ∃ Ao co Ab cb, e = .returned (.tuple #[tcV q.2 Ao co Ab cb, .int .i64 q.1]) ∧ GivT w w' q.2 Ao co Ab cb
theorem tcIn_nought {w : World} {B : Nat} : TcIn w B Tc.empty none 0 none 0 :=
  ⟨by decide, by decide, by decide, by decide, Nat.le_refl _, by omega, fun _ => rfl, .inl rfl, Nat.le_refl _, by omega, fun _ => rfl, .inl rfl⟩
theorem parsT_err {w w' : World} {q : Int × Tc} {e : Ending} {n : Int} (hq : q = (n, Tc.empty)) (he : e = .returned (.tuple #[.agg #[.int .i64 0, .int .i64 0, .int .u32 0, .int .u32 0, .int .i64 0, .int .i64 0, .int .i64 0, .slice none 0 0, .slice none 0 0], .int .i64 n])) (h : Below w.heap.size w w') : ParsT w q e w' := by
  subst hq
  exact ⟨none, 0, none, 0, he, tcIn_nought, h⟩

set_option maxRecDepth 100000 in
set_option maxHeartbeats 4000000 in
theorem tparseA (src dst : Int) (A : Option Addr) (n c : Nat) (l : List UInt8) (w : World) (hn : l.length = n) (h : Bs w w.heap.size A l) (hn2 : n ≤ 16777216) (hM : tmE l ≠ 0) :
    Calls Try.prog 43 #[.int .u32 src, .int .u32 dst, .slice A n c] w (ParsT w (prsT src dst l)) := by
  have hb : Bs (Zt w) w.heap.size A l := h.below (Zt.below (Below.refl _ _))
  have HP := Go.Lib.hid (prsT_meas (src := src) (dst := dst) hM)
  have HM : Hid (tmH l = 0) := Go.Lib.hid (if_neg hM)
  have t1 : (tmE l != 0) = true := by simpa using hM
  have x0 : Below (w.heap.size + 1) (Zt w) (Zt w) := Below.refl _ _
  clear hM h
  go_enter Try.func43, Try.ntmps43
  go_wp2_with fail
  refine (tmeasure A n c l w.heap.size _ hn hb hn2).mono ?_
  rintro e w1 ⟨rfl, rfl⟩
  rw [HM.out]
  dsimp only
  generalize tmE l = q at *
  obtain ⟨⟨z0, z1, z2, z3, z4, z5, z6, z7, z8⟩, zf⟩ := zt_of x0
  have y0 := Zt.below x0
  clear hb x0
  generalize Zt w = X at *
  go_wp2
  refine bodyPost_ret (v := .tuple #[.agg #[.int .i64 0, .int .i64 0, .int .u32 0, .int .u32 0, .int .i64 0, .int .i64 0, .int .i64 0, .slice none 0 0, .slice none 0 0], .int .i64 q]) ?_ rfl (parsT_err HP.out rfl ?_)
  · simp [results, Try.results43, go_sem, z0, z1, z2, z3, z4, z5, z6, z7, z8]
  · exact below_s9 y0 (Nat.le_refl _) _ _ _ _ _ _ _ _ _

set_option maxRecDepth 100000 in
set_option maxHeartbeats 4000000 in
theorem tparseB (src dst : Int) (A : Option Addr) (n c : Nat) (l : List UInt8) (w : World) (hs : 0 ≤ src ∧ src ≤ 4294967295) (hd : 0 ≤ dst ∧ dst ≤ 4294967295) (hn : l.length = n) (h : Bs w w.heap.size A l) (hn2 : n ≤ 16777216) (hnc : n ≤ c) (hc63 : c ≤ 9223372036854775807) (hM : tmE l = 0) (hS : sumT 6 src dst l ≠ 65535) :
    Calls Try.prog 43 #[.int .u32 src, .int .u32 dst, .slice A n c] w (ParsT w (prsT src dst l)) := by
  have hb : Bs (Zt w) w.heap.size A l := h.below (Zt.below (Below.refl _ _))
  obtain ⟨m1, m2, m3, m4, m5⟩ := tmE_ok hM
  have HP : Hid (prsT src dst l = (5, Tc.empty)) := Go.Lib.hid (by unfold prsT; rw [if_neg (by omega), if_neg (by omega), if_neg (by omega), if_pos hS])
  have HM := Go.Lib.hid hM
  obtain ⟨s, hsum⟩ : ∃ s : Int, sumT 6 src dst l = s := ⟨_, rfl⟩
  rw [hsum] at hS
  have HS := Go.Lib.hid hsum
  have t1 : (s != 65535) = true := by simpa using hS
  have x0 : Below (w.heap.size + 1) (Zt w) (Zt w) := Below.refl _ _
  have HN := Go.Lib.hid hn
  have HB := Go.Lib.hid h
  clear hM h hS hsum m1 m2 m3 m4 m5
  go_enter Try.func43, Try.ntmps43
  go_wp2_with fail
  refine (tmeasure A n c l w.heap.size _ hn hb hn2).mono ?_
  rintro e w1 ⟨rfl, rfl⟩
  rw [HM.out]
  dsimp only
  generalize tmH l = q at *
  have HX := Go.Lib.hid x0
  clear hn hb x0
  go_wp2_with fail
  refine (tsum src dst A n c l w.heap.size _ s HS.out hs hd HN.out (HB.out.below (Zt.below HX.out)) hn2 hnc hc63).mono ?_
  rintro e w2 ⟨rfl, m2, rfl⟩
  dsimp only
  have x2 : Below (w.heap.size + 1) (Zt w) ((Zt w).drewN m2) := below_dn HX.out m2
  obtain ⟨⟨z0, z1, z2, z3, z4, z5, z6, z7, z8⟩, zf⟩ := zt_of x2
  have y0 := Zt.below x2
  clear HX x2
  generalize (Zt w).drewN m2 = X2 at *
  go_wp2
  refine bodyPost_ret (v := .tuple #[.agg #[.int .i64 0, .int .i64 0, .int .u32 0, .int .u32 0, .int .i64 0, .int .i64 0, .int .i64 0, .slice none 0 0, .slice none 0 0], .int .i64 5]) ?_ rfl (parsT_err HP.out rfl ?_)
  · simp [results, Try.results43, go_sem, z0, z1, z2, z3, z4, z5, z6, z7, z8]
  · exact below_s9 y0 (Nat.le_refl _) _ _ _ _ _ _ _ _ _

theorem parsT_ok {w w' : World} {q : Int × Tc} {e : Ending} {t : Tc} {Ao : Option Addr} {co : Nat} {Ab : Option Addr} {cb : Nat} (hq : q = (0, t)) (he : e = .returned (.tuple #[tcV t Ao co Ab cb, .int .i64 0])) (h : GivT w w' t Ao co Ab cb) : ParsT w q e w' := by
  subst hq
  exact ⟨Ao, co, Ab, cb, he, h⟩
theorem tread_t (A : Option Addr) (n c : Nat) (l : List UInt8) (w : World) (hn : l.length = n) (h : Bs w w.heap.size A l) (hn2 : n ≤ 16777216) (h20 : 20 ≤ n) (hnc : n ≤ c) (hc63 : c ≤ 9223372036854775807) (k : Nat) (hk0 : 20 ≤ k) (hk : k ≤ n) (os : List Op) (Ao : Option Addr) (no co : Nat) (hno : os.length = no) (t : Tc) (ht : rdT l k os = t) :
    Calls Try.prog 70 #[.slice A n c, .int .i64 k, .slice Ao no co] w fun e w' => ∃ Ab cb, e = .returned (tcV t Ao co Ab cb) ∧ ReadT w w' (l.drop k) Ab cb := ht ▸ tread A n c l w hn h hn2 h20 hnc hc63 k hk0 hk os Ao no co hno
theorem prsT_C {src dst : Int} {l : List UInt8} (h : tmE l = 0) (hs : sumT 6 src dst l = 65535) {k : Nat} (hk : (k : Int) = tsz l) : prsT src dst l =
    (match pOpts 60 ((l.take k).drop 20) [] with
    | none => (6, Tc.empty)
    | some os => (0, rdT l k os)) := by
  obtain ⟨m1, m2, m3, m4, m5⟩ := tmE_ok h
  have e : (tsz l).toNat = k := by omega
  unfold prsT
  rw [if_neg (by omega), if_neg (by omega), if_neg (by omega), if_neg (by omega), e]
  rfl

set_option maxRecDepth 100000 in
set_option maxHeartbeats 8000000 in
theorem tparseC (src dst : Int) (A : Option Addr) (n c : Nat) (l : List UInt8) (w : World) (hs : 0 ≤ src ∧ src ≤ 4294967295) (hd : 0 ≤ dst ∧ dst ≤ 4294967295) (hn : l.length = n) (h : Bs w w.heap.size A l) (hn2 : n ≤ 16777216) (hnc : n ≤ c) (hc63 : c ≤ 9223372036854775807) (hA : A = none → c = 0) (hM : tmE l = 0) (hS : sumT 6 src dst l = 65535) :
    Calls Try.prog 43 #[.int .u32 src, .int .u32 dst, .slice A n c] w (ParsT w (prsT src dst l)) := by
  obtain ⟨m1, m2, m3, m4, m5⟩ := tmE_ok hM
  obtain ⟨ad, rfl, hlt, _⟩ := g8_cells h (by omega)
  have hb : Bs (Zt w) w.heap.size (some ad) l := h.below (Zt.below (Below.refl _ _))
  obtain ⟨k, hk⟩ : ∃ k : Nat, (k : Int) = tsz l := ⟨(tsz l).toNat, by omega⟩
  have HP := Go.Lib.hid (prsT_C hM hS hk)
  have HH : Hid (tmH l = (k : Int)) := Go.Lib.hid (by unfold tmH; rw [if_pos hM, hk])
  have HM := Go.Lib.hid hM
  have HS := Go.Lib.hid hS
  have x0 : Below (w.heap.size + 1) (Zt w) (Zt w) := Below.refl _ _
  have HN := Go.Lib.hid hn
  have HB := Go.Lib.hid h
  have k20 : 20 ≤ k := by omega
  have k60 : k ≤ 60 := by omega
  have kn : k ≤ n := by omega
  have i1 : (20 : Int) ≤ (k : Int) := by omega
  have i2 : (k : Int) ≤ (c : Int) := by omega
  have HDB : Hid (Bs w w.heap.size (if c = 20 then (some ad : Option Addr) else some { block := ad.block, off := ad.off + 20 }) ((l.take k).drop 20)) := Go.Lib.hid ((h.take k).cut 20 c (by rw [List.length_take]; omega) (by omega))
  have HDN : Hid ((if c = 20 then (some ad : Option Addr) else some { block := ad.block, off := ad.off + 20 }) = none → c - 20 = 0) := Go.Lib.hid (fun h => by split at h <;> cases h)
  have HDL : Hid (((l.take k).drop 20).length = k - 20) := Go.Lib.hid (by rw [List.length_drop, List.length_take]; omega)
  clear hM h hS m1 m2 m3 m4 m5 hk hA
  obtain ⟨A30, hA30⟩ : ∃ A30, (if c = 20 then (some ad : Option Addr) else some { block := ad.block, off := ad.off + 20 }) = A30 := ⟨_, rfl⟩
  have HDB : Hid (Bs w w.heap.size A30 ((l.take k).drop 20)) := Go.Lib.hid (hA30 ▸ HDB.out)
  have HDN : Hid (A30 = none → c - 20 = 0) := Go.Lib.hid (hA30 ▸ HDN.out)
  go_enter Try.func43, Try.ntmps43
  go_wp2_with fail
  refine (tmeasure (some ad) n c l w.heap.size _ hn hb hn2).mono ?_
  rintro e w1 ⟨rfl, rfl⟩
  rw [HM.out, HH.out]
  dsimp only
  have HX := Go.Lib.hid x0
  clear hn hb x0
  go_wp2_with fail
  refine (tsum src dst (some ad) n c l w.heap.size _ 65535 HS.out hs hd HN.out (HB.out.below (Zt.below HX.out)) hn2 hnc hc63).mono ?_
  rintro e w2 ⟨rfl, m2, rfl⟩
  dsimp only
  have x2 : Below (w.heap.size + 1) (Zt w) ((Zt w).drewN m2) := below_dn HX.out m2
  clear HX
  generalize (Zt w).drewN m2 = X2 at *
  have y2 := Zt.below x2
  have sz2 := Zt.size x2
  obtain ⟨r, hr⟩ : ∃ r, pOpts 60 ((l.take k).drop 20) [] = r := ⟨_, rfl⟩
  have HR := Go.Lib.hid hr
  clear hr
  go_wp2_with fail
  refine (treadOpts A30 (k - 20) (c - 20) ((l.take k).drop 20) X2 HDL.out ((HDB.out.below y2).more y2.size) (by omega) (by omega) (by omega) HDN.out).mono ?_
  rw [HR.out]
  intro e w3 h3
  have x3 : Below (w.heap.size + 1) (Zt w) w3 := x2.trans (h3.below.mono sz2)
  have y3 := Zt.below x3
  have sz3 := Zt.size x3
  obtain ⟨⟨z0, z1, z2, z3, z4, z5, z6, z7, z8⟩, zf⟩ := zt_of x3
  cases r with
  | none =>
    obtain rfl := h3.no rfl
    dsimp only
    have HP2 : Hid (prsT src dst l = (6, Tc.empty)) := Go.Lib.hid (by rw [HP.out, HR.out])
    clear h3 x2 x3
    go_wp2
    refine bodyPost_ret (v := .tuple #[.agg #[.int .i64 0, .int .i64 0, .int .u32 0, .int .u32 0, .int .i64 0, .int .i64 0, .int .i64 0, .slice none 0 0, .slice none 0 0], .int .i64 6]) ?_ rfl (parsT_err HP2.out rfl ?_)
    · simp [results, Try.results43, go_sem, z0, z1, z2, z3, z4, z5, z6, z7, z8]
    · exact below_s9 y3 (Nat.le_refl _) _ _ _ _ _ _ _ _ _
  | some os =>
    obtain ⟨Ao, co, rfl, o1, o2, o3, o4⟩ := h3.yes os rfl
    dsimp only
    have HP2 : Hid (prsT src dst l = (0, rdT l k os)) := Go.Lib.hid (by rw [HP.out, HR.out])
    obtain ⟨t, ht⟩ : ∃ t, rdT l k os = t := ⟨_, rfl⟩
    have HT := Go.Lib.hid ht
    have HO4 := Go.Lib.hid o4
    have HO3 := Go.Lib.hid o3
    have X3 := Go.Lib.hid x3
    clear ht h3 x2 x3 o3 o4 z0 z1 z2 z3 z4 z5 z6 z7 z8 zf
    go_wp2_with fail
    refine (tread_t (some ad) n c l w3 HN.out ((HB.out.below y3).more y3.size) hn2 (by omega) hnc hc63 k k20 kn os Ao os.length co rfl t HT.out).mono ?_
    rintro e w4 ⟨Ab, cb, rfl, h4⟩
    dsimp only
    have x4 : Below (w.heap.size + 1) (Zt w) w4 := X3.out.trans (h4.below.mono sz3)
    have y4 := Zt.below x4
    obtain ⟨⟨z0, z1, z2, z3, z4, z5, z6, z7, z8⟩, zf⟩ := zt_of x4
    have HG : Hid (GivT w (set9 w4 w.heap.size (.int .i64 t.sport) (.int .i64 t.dport) (.int .u32 t.seq) (.int .u32 t.ack) (.int .i64 t.flags) (.int .i64 t.win) (.int .i64 t.urg) (.slice Ao t.opts.length co) (.slice Ab t.body.length cb)) t Ao co Ab cb) := by
      have ht := HT.out
      refine Go.Lib.hid ⟨?_, below_s9 y4 (Nat.le_refl _) _ _ _ _ _ _ _ _ _⟩
      rw [size_s9]
      subst ht
      exact ⟨ad4_lo l 4, ad4_hi l 4, ad4_lo l 8, ad4_hi l 8, o1, o2, HO3.out, (((HO4.out.below h4.below).more h4.below.size).set9 (by omega) _ _ _ _ _ _ _ _ _).os, h4.len, h4.cap, h4.nil, (h4.bs.set9 (by omega) _ _ _ _ _ _ _ _ _).bs⟩
    clear h4 x4 y4
    go_wp2
    refine bodyPost_ret (v := .tuple #[.agg #[.int .i64 t.sport, .int .i64 t.dport, .int .u32 t.seq, .int .u32 t.ack, .int .i64 t.flags, .int .i64 t.win, .int .i64 t.urg, .slice Ao t.opts.length co, .slice Ab t.body.length cb], .int .i64 0]) ?_ rfl (parsT_ok (by rw [HP2.out, HT.out]) rfl HG.out)
    simp [results, Try.results43, go_sem, z0, z1, z2, z3, z4, z5, z6, z7, z8]
  
/-- Parse, whatever came. -/
theorem tparse (src dst : Int) (A : Option Addr) (n c : Nat) (l : List UInt8) (w : World) (hs : 0 ≤ src ∧ src ≤ 4294967295) (hd : 0 ≤ dst ∧ dst ≤ 4294967295) (hn : l.length = n) (h : Bs w w.heap.size A l) (hn2 : n ≤ 16777216) (hnc : n ≤ c) (hc63 : c ≤ 9223372036854775807) (hA : A = none → c = 0) :
    Calls Try.prog 43 #[.int .u32 src, .int .u32 dst, .slice A n c] w (ParsT w (prsT src dst l)) := by
  by_cases hM : tmE l = 0
  · by_cases hS : sumT 6 src dst l = 65535
    · exact tparseC src dst A n c l w hs hd hn h hn2 hnc hc63 hA hM hS
    · exact tparseB src dst A n c l w hs hd hn h hn2 hnc hc63 hM hS
  · exact tparseA src dst A n c l w hn h hn2 hM
end Go.Proofs.Ytmgkkgpdnopeaaa
