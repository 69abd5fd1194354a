/- The document's own answers for package rules: Right, Ask. -/
import Derived.Test.YtacohanlpgkdeaaRulesR
namespace Go.Proofs.Ytacohanlpgkdeaa
open Go.ChangeShapes Go.WideShapes Go.ChangeAt Go.RowKit
set_option linter.unusedVariables false
set_option linter.unusedSimpArgs false

theorem rightU_no {l : List Ru} {q : Bool} (hq : rightU l = q) {k : Nat} (hk : k < l.length) {r : Ru} (hr : atU l k = r) (h : ¬ OkU r) : q = false := by
  cases q
  · rfl
  · rw [rightU_iff] at hq
    have h1 := hq.2 _ (List.getElem_mem hk)
    rw [← atU_get hk, hr] at h1
    exact absurd ((okU_iff r).1 h1) h
theorem rightU_yes {l : List Ru} {q : Bool} (hq : rightU l = q) (h64 : l.length ≤ 64) (h : ∀ j, j < l.length → OkU (atU l j)) : q = true := by
  rw [← hq, rightU_iff]
  refine ⟨h64, fun r hr => ?_⟩
  obtain ⟨j, hj, rfl⟩ := List.getElem_of_mem hr
  have := h j hj
  rw [atU_get hj] at this
  exact (okU_iff _).2 this
theorem info_int14 : (Try.prog.info? 3).map (fun i => (i.zero, i.size, i.bytes)) = some (some (.int .i64 0), 1, 8) := by kernel_rfl
theorem arr7 (a b c d e f g : Value) (w : World) : (Instr.index 39 (.agg #[a, b, c, d, e, f, g]) (.int .i64 0)).run Try.prog w = .ok a w ∧ (Instr.index 39 (.agg #[a, b, c, d, e, f, g]) (.int .i64 1)).run Try.prog w = .ok b w ∧ (Instr.index 39 (.agg #[a, b, c, d, e, f, g]) (.int .i64 2)).run Try.prog w = .ok c w ∧ (Instr.index 39 (.agg #[a, b, c, d, e, f, g]) (.int .i64 3)).run Try.prog w = .ok d w ∧ (Instr.index 39 (.agg #[a, b, c, d, e, f, g]) (.int .i64 4)).run Try.prog w = .ok e w ∧ (Instr.index 39 (.agg #[a, b, c, d, e, f, g]) (.int .i64 5)).run Try.prog w = .ok f w ∧ (Instr.index 39 (.agg #[a, b, c, d, e, f, g]) (.int .i64 6)).run Try.prog w = .ok g w := by
  obtain ⟨i0, hi, hz0, hz1, hz2⟩ := info_parts info_int14
  exact ⟨run_index_arr _ _ 7 .i64 i0 _ 0 _ (by kernel_rfl) Try.underlying3 hi (by kernel_rfl) (by omega) rfl w, run_index_arr _ _ 7 .i64 i0 _ 1 _ (by kernel_rfl) Try.underlying3 hi (by kernel_rfl) (by omega) rfl w, run_index_arr _ _ 7 .i64 i0 _ 2 _ (by kernel_rfl) Try.underlying3 hi (by kernel_rfl) (by omega) rfl w, run_index_arr _ _ 7 .i64 i0 _ 3 _ (by kernel_rfl) Try.underlying3 hi (by kernel_rfl) (by omega) rfl w, run_index_arr _ _ 7 .i64 i0 _ 4 _ (by kernel_rfl) Try.underlying3 hi (by kernel_rfl) (by omega) rfl w, run_index_arr _ _ 7 .i64 i0 _ 5 _ (by kernel_rfl) Try.underlying3 hi (by kernel_rfl) (by omega) rfl w, run_index_arr _ _ 7 .i64 i0 _ 6 _ (by kernel_rfl) Try.underlying3 hi (by kernel_rfl) (by omega) rfl w⟩
/-- the checks of a rule, number by number. -/
def chkU (r : Ru) (j : Nat) : Prop := match j with
  | 0 => -1 ≤ r.fr ∧ r.fr ≤ 7
  | 1 => -1 ≤ r.to ∧ r.to ≤ 7
  | 2 => 0 ≤ r.proto ∧ r.proto ≤ 255
  | 3 => 0 ≤ r.sbits ∧ r.sbits ≤ 32
  | 4 => 0 ≤ r.dbits ∧ r.dbits ≤ 32
  | 5 => 0 ≤ r.lo ∧ r.lo ≤ 65535
  | _ => 0 ≤ r.hi ∧ r.hi ≤ 65535
structure ChkU (r : Ru) (m : Nat) : Prop where
  to_ : ∀ j, j < m → chkU r j
theorem ChkU.next {r : Ru} {j : Nat} (h : ChkU r j) (h1 : chkU r j) : ChkU r (j + 1) := ⟨fun i hi => by
  by_cases e : i = j
  · rw [e]; exact h1
  · exact h.to_ i (by omega)⟩
theorem ChkU.ok {r : Ru} (h : ChkU r 7) (hs : r.lo ≤ r.hi) (ha : r.act = 1 ∨ r.act = 2) : OkU r :=
  ⟨h.to_ 0 (by omega), h.to_ 1 (by omega), h.to_ 2 (by omega), h.to_ 3 (by omega), h.to_ 4 (by omega), h.to_ 5 (by omega), h.to_ 6 (by omega), hs, ha⟩
set_option maxRecDepth 100000 in
set_option maxHeartbeats 8000000 in
theorem rright14 (l : List Ru) (A : Option Addr) (c N : Nat) (hN : l.length = N) (w : World) (h : RusAt w l A c) (q : Bool) (hq : rightU l = q) :
    Calls Try.prog 11 #[.slice A N c] w fun e w' => e = .returned (.bool q) ∧ Below w.heap.size w w' := by
  subst hN
  have HQ0 := Go.Lib.hid hq
  have HC := Go.Lib.hid h
  have hlc := h.len
  have hcc := h.cap
  clear hq h
  by_cases h64 : 64 < l.length
  · have t64 : (64 : Int) < (l.length : Int) := by omega
    have HQ : Hid (q = false) := Go.Lib.hid (by
      rw [← HQ0.out]
      unfold rightU
      rw [decide_eq_false (by omega), Bool.false_and])
    go_enter Try.func11, Try.ntmps11
    go_wp2_with fail
    go_ret
    exact ⟨by rw [HQ.out]; rfl, Below.refl _ _⟩
  have t64 : ¬ (64 : Int) < (l.length : Int) := by omega
  go_enter Try.func11, Try.ntmps11
  go_wp2_with fail
  go_loopw [3] (fun iv wr => ∃ k : Nat, iv = .int .i64 k ∧ k ≤ l.length ∧ Hid (∀ j, j < k → OkU (atU l j)) ∧ Below w.heap.size w wr) (fun iv _ => l.length - (intOf iv).toNat)
  case atStart => exact ⟨0, rfl, by omega, Go.Lib.hid (fun j hj => by omega), Below.refl _ _⟩
  case round =>
    rename World => wo
    obtain ⟨k, rfl, hk, HK, yo⟩ := hrel
    have k0 : (0 : Int) ≤ (k : Int) := by omega
    by_cases hkl : k < l.length
    · have t1 : (k : Int) < (l.length : Int) := by omega
      obtain ⟨ad, rfl, hcell⟩ := HC.out.cell hkl
      obtain ⟨r, hr⟩ : ∃ r, l[k] = r := ⟨_, rfl⟩
      have HR : Hid (atU l k = r) := Go.Lib.hid (by rw [atU_get hkl]; exact hr)
      rw [hr] at hcell
      have HW := Go.Lib.hid (hcell wo yo)
      have y2 : Below w.heap.size w (wo.alloc (oRu r)) := below_alloc yo yo.size _
      have hbx := Bxo.made wo 25 (ruL r)
      clear hcell hr
      go_upto_region 7 with (refine wpList_load_at rfl 25 _ rfl (ad.add (k * 10)) rfl (ruL r) _ HW.out Try.underlying25 rfl info_ru ?_)
      generalize wo.alloc (oRu r) = W at *
      generalize wo.heap.size = g at *
      have HB := Go.Lib.hid (show Bxo W g 25 (ruL r) from hbx)
      obtain ⟨fr, to_, proto, src, dst, sbits, dbits, lo, hi_, act⟩ := r
      have c0 := HB.out.cell 0 rfl
      have c1 := HB.out.cell 1 rfl
      have c2 := HB.out.cell 2 rfl
      have c5 := HB.out.cell 5 rfl
      have c6 := HB.out.cell 6 rfl
      have c7 := HB.out.cell 7 rfl
      have c8 := HB.out.cell 8 rfl
      have c9 := HB.out.cell 9 rfl
      dsimp only at c0 c1 c2 c5 c6 c7 c8 c9
      clear hbx HW
      have ix := fun W => arr7 (.int .i64 fr) (.int .i64 to_) (.int .i64 proto) (.int .i64 sbits) (.int .i64 dbits) (.int .i64 lo) (.int .i64 hi_) W
      have iy := fun W => arr7 (.int .i64 7) (.int .i64 7) (.int .i64 255) (.int .i64 32) (.int .i64 32) (.int .i64 65535) (.int .i64 65535) W
      go_wp2_with fail
      go_loop [37] (fun mv => ∃ m : Int, mv = .int .i64 m ∧ (0 ≤ m ∧ m ≤ 7) ∧ Hid (ChkU ⟨fr, to_, proto, src, dst, sbits, dbits, lo, hi_, act⟩ m.toNat)) (fun mv => 7 - (intOf mv).toNat)
      case atStart => exact ⟨0, rfl, by omega, Go.Lib.hid ⟨fun j hj => by simp at hj⟩⟩
      case round =>
        obtain ⟨m, rfl, hm, HM⟩ := hrel
        by_cases hm7 : m < 7
        · obtain rfl | rfl | rfl | rfl | rfl | rfl | rfl : m = 0 ∨ m = 1 ∨ m = 2 ∨ m = 3 ∨ m = 4 ∨ m = 5 ∨ m = 6 := by omega
          · by_cases b1 : fr < (-1)
            · have HQ : Hid (q = false) := Go.Lib.hid (rightU_no HQ0.out hkl HR.out (fun h => by have h2 := h.fr; dsimp only at h2; omega))
              go_wp2_with fail
              go_ret
              exact ⟨by rw [HQ.out]; rfl, y2⟩
            · by_cases b2 : 7 < fr
              · have HQ : Hid (q = false) := Go.Lib.hid (rightU_no HQ0.out hkl HR.out (fun h => by have h2 := h.fr; dsimp only at h2; omega))
                go_wp2_with fail
                go_ret
                exact ⟨by rw [HQ.out]; rfl, y2⟩
              · have HN : Hid (chkU ⟨fr, to_, proto, src, dst, sbits, dbits, lo, hi_, act⟩ 0) := Go.Lib.hid (by show ((-1) : Int) ≤ fr ∧ fr ≤ 7; omega)
                go_wp2_with fail
                go_round
                case rel => exact ⟨1, rfl, by omega, Go.Lib.hid (HM.out.next (j := 0) HN.out)⟩
                case measure => simp [intOf]
          · by_cases b1 : to_ < (-1)
            · have HQ : Hid (q = false) := Go.Lib.hid (rightU_no HQ0.out hkl HR.out (fun h => by have h2 := h.to; dsimp only at h2; omega))
              go_wp2_with fail
              go_ret
              exact ⟨by rw [HQ.out]; rfl, y2⟩
            · by_cases b2 : 7 < to_
              · have HQ : Hid (q = false) := Go.Lib.hid (rightU_no HQ0.out hkl HR.out (fun h => by have h2 := h.to; dsimp only at h2; omega))
                go_wp2_with fail
                go_ret
                exact ⟨by rw [HQ.out]; rfl, y2⟩
              · have HN : Hid (chkU ⟨fr, to_, proto, src, dst, sbits, dbits, lo, hi_, act⟩ 1) := Go.Lib.hid (by show ((-1) : Int) ≤ to_ ∧ to_ ≤ 7; omega)
                go_wp2_with fail
                go_round
                case rel => exact ⟨2, rfl, by omega, Go.Lib.hid (HM.out.next (j := 1) HN.out)⟩
                case measure => simp [intOf]
          · by_cases b1 : proto < 0
            · have HQ : Hid (q = false) := Go.Lib.hid (rightU_no HQ0.out hkl HR.out (fun h => by have h2 := h.proto; dsimp only at h2; omega))
              go_wp2_with fail
              go_ret
              exact ⟨by rw [HQ.out]; rfl, y2⟩
            · by_cases b2 : 255 < proto
              · have HQ : Hid (q = false) := Go.Lib.hid (rightU_no HQ0.out hkl HR.out (fun h => by have h2 := h.proto; dsimp only at h2; omega))
                go_wp2_with fail
                go_ret
                exact ⟨by rw [HQ.out]; rfl, y2⟩
              · have HN : Hid (chkU ⟨fr, to_, proto, src, dst, sbits, dbits, lo, hi_, act⟩ 2) := Go.Lib.hid (by show (0 : Int) ≤ proto ∧ proto ≤ 255; omega)
                go_wp2_with fail
                go_round
                case rel => exact ⟨3, rfl, by omega, Go.Lib.hid (HM.out.next (j := 2) HN.out)⟩
                case measure => simp [intOf]
          · by_cases b1 : sbits < 0
            · have HQ : Hid (q = false) := Go.Lib.hid (rightU_no HQ0.out hkl HR.out (fun h => by have h2 := h.sbits; dsimp only at h2; omega))
              go_wp2_with fail
              go_ret
              exact ⟨by rw [HQ.out]; rfl, y2⟩
            · by_cases b2 : 32 < sbits
              · have HQ : Hid (q = false) := Go.Lib.hid (rightU_no HQ0.out hkl HR.out (fun h => by have h2 := h.sbits; dsimp only at h2; omega))
                go_wp2_with fail
                go_ret
                exact ⟨by rw [HQ.out]; rfl, y2⟩
              · have HN : Hid (chkU ⟨fr, to_, proto, src, dst, sbits, dbits, lo, hi_, act⟩ 3) := Go.Lib.hid (by show (0 : Int) ≤ sbits ∧ sbits ≤ 32; omega)
                go_wp2_with fail
                go_round
                case rel => exact ⟨4, rfl, by omega, Go.Lib.hid (HM.out.next (j := 3) HN.out)⟩
                case measure => simp [intOf]
          · by_cases b1 : dbits < 0
            · have HQ : Hid (q = false) := Go.Lib.hid (rightU_no HQ0.out hkl HR.out (fun h => by have h2 := h.dbits; dsimp only at h2; omega))
              go_wp2_with fail
              go_ret
              exact ⟨by rw [HQ.out]; rfl, y2⟩
            · by_cases b2 : 32 < dbits
              · have HQ : Hid (q = false) := Go.Lib.hid (rightU_no HQ0.out hkl HR.out (fun h => by have h2 := h.dbits; dsimp only at h2; omega))
                go_wp2_with fail
                go_ret
                exact ⟨by rw [HQ.out]; rfl, y2⟩
              · have HN : Hid (chkU ⟨fr, to_, proto, src, dst, sbits, dbits, lo, hi_, act⟩ 4) := Go.Lib.hid (by show (0 : Int) ≤ dbits ∧ dbits ≤ 32; omega)
                go_wp2_with fail
                go_round
                case rel => exact ⟨5, rfl, by omega, Go.Lib.hid (HM.out.next (j := 4) HN.out)⟩
                case measure => simp [intOf]
          · by_cases b1 : lo < 0
            · have HQ : Hid (q = false) := Go.Lib.hid (rightU_no HQ0.out hkl HR.out (fun h => by have h2 := h.lo; dsimp only at h2; omega))
              go_wp2_with fail
              go_ret
              exact ⟨by rw [HQ.out]; rfl, y2⟩
            · by_cases b2 : 65535 < lo
              · have HQ : Hid (q = false) := Go.Lib.hid (rightU_no HQ0.out hkl HR.out (fun h => by have h2 := h.lo; dsimp only at h2; omega))
                go_wp2_with fail
                go_ret
                exact ⟨by rw [HQ.out]; rfl, y2⟩
              · have HN : Hid (chkU ⟨fr, to_, proto, src, dst, sbits, dbits, lo, hi_, act⟩ 5) := Go.Lib.hid (by show (0 : Int) ≤ lo ∧ lo ≤ 65535; omega)
                go_wp2_with fail
                go_round
                case rel => exact ⟨6, rfl, by omega, Go.Lib.hid (HM.out.next (j := 5) HN.out)⟩
                case measure => simp [intOf]
          · by_cases b1 : hi_ < 0
            · have HQ : Hid (q = false) := Go.Lib.hid (rightU_no HQ0.out hkl HR.out (fun h => by have h2 := h.hi; dsimp only at h2; omega))
              go_wp2_with fail
              go_ret
              exact ⟨by rw [HQ.out]; rfl, y2⟩
            · by_cases b2 : 65535 < hi_
              · have HQ : Hid (q = false) := Go.Lib.hid (rightU_no HQ0.out hkl HR.out (fun h => by have h2 := h.hi; dsimp only at h2; omega))
                go_wp2_with fail
                go_ret
                exact ⟨by rw [HQ.out]; rfl, y2⟩
              · have HN : Hid (chkU ⟨fr, to_, proto, src, dst, sbits, dbits, lo, hi_, act⟩ 6) := Go.Lib.hid (by show (0 : Int) ≤ hi_ ∧ hi_ ≤ 65535; omega)
                go_wp2_with fail
                go_round
                case rel => exact ⟨7, rfl, by omega, Go.Lib.hid (HM.out.next (j := 6) HN.out)⟩
                case measure => simp [intOf]
        · obtain rfl : m = 7 := by omega
          clear hm hm7
          by_cases a1 : hi_ < lo
          · have HQ : Hid (q = false) := Go.Lib.hid (rightU_no HQ0.out hkl HR.out (fun h => by have h2 := h.span; dsimp only at h2; omega))
            go_wp2_with fail
            go_ret
            exact ⟨by rw [HQ.out]; rfl, y2⟩
          · by_cases a2 : act = 1
            · have s2 : (act != 1) = false := by simp [a2]
              have HO : Hid (OkU ⟨fr, to_, proto, src, dst, sbits, dbits, lo, hi_, act⟩) := Go.Lib.hid (HM.out.ok (by dsimp only; omega) (.inl a2))
              clear a2
              go_wp2_with fail
              go_round
              case rel => exact ⟨k + 1, by go_num, by omega, Go.Lib.hid (fun j hj => by
                by_cases e : j = k
                · rw [e, HR.out]; exact HO.out
                · exact HK.out j (by omega)), y2⟩
              case measure => simp [intOf]; omega
            · have s2 : (act != 1) = true := by simp [a2]
              by_cases a3 : act = 2
              · have s3 : (act != 2) = false := by simp [a3]
                have HO : Hid (OkU ⟨fr, to_, proto, src, dst, sbits, dbits, lo, hi_, act⟩) := Go.Lib.hid (HM.out.ok (by dsimp only; omega) (.inr a3))
                clear a2 a3
                go_wp2_with fail
                go_round
                case rel => exact ⟨k + 1, by go_num, by omega, Go.Lib.hid (fun j hj => by
                  by_cases e : j = k
                  · rw [e, HR.out]; exact HO.out
                  · exact HK.out j (by omega)), y2⟩
                case measure => simp [intOf]; omega
              · have s3 : (act != 2) = true := by simp [a3]
                have HQ : Hid (q = false) := Go.Lib.hid (rightU_no HQ0.out hkl HR.out (fun h => by have h2 := h.act; dsimp only at h2; omega))
                clear a2 a3
                go_wp2_with fail
                go_ret
                exact ⟨by rw [HQ.out]; rfl, y2⟩
    · obtain rfl : k = l.length := by omega
      have t1 : ¬ (l.length : Int) < (l.length : Int) := by omega
      have HQ : Hid (q = true) := Go.Lib.hid (rightU_yes HQ0.out (by omega) HK.out)
      go_wp2_with fail
      go_ret
      exact ⟨by rw [HQ.out]; rfl, yo⟩
set_option maxRecDepth 100000 in
set_option maxHeartbeats 8000000 in
theorem rask14 (l : List Ru) (A : Option Addr) (c N : Nat) (hN : l.length = N) (f t : Int) (tp : Tp) (ht : RngTp tp) (w : World) (h : RusAt w l A c) (q : Int × Int) (hq : askU l f t tp = q) :
    Calls Try.prog 9 #[.slice A N c, .int .i64 f, .int .i64 t, tpV tp] w fun e w' => e = .returned (.tuple #[.int .i64 q.1, .int .i64 q.2]) ∧ Below w.heap.size w w' := by
  subst hN
  have HQ0 := Go.Lib.hid hq
  have HC := Go.Lib.hid h
  have HT := Go.Lib.hid ht
  have hlc := h.len
  have hcc := h.cap
  have y0 : Below w.heap.size w (w.alloc (oTp tp)) := (Below.refl _ _).alloc (Nat.le_refl _) _
  have hb := Bxo.made w 27 (tpL tp)
  obtain ⟨rt, hrt⟩ : ∃ rt, rightU l = rt := ⟨_, rfl⟩
  have HRT := Go.Lib.hid hrt
  clear hq h ht hrt
  go_enter Try.func9, Try.ntmps9
  go_upto_region 1 with fail
  generalize w.alloc (oTp tp) = W at *
  have HB0 := Go.Lib.hid (show Bxo W w.heap.size 27 (tpL tp) from hb)
  clear hb
  go_wp2_with fail
  go_loopw [10] (fun iv wr => ∃ k : Nat, iv = .int .i64 k ∧ k ≤ l.length ∧ Hid (∀ j, j < k → fitsU (atU l j) f t tp = false) ∧ Below w.heap.size w wr ∧ Below W.heap.size W wr) (fun iv _ => l.length - (intOf iv).toNat)
  case atStart => exact ⟨0, rfl, by omega, Go.Lib.hid (fun j hj => by omega), y0, Below.refl _ _⟩
  case round =>
    rename World => wo
    obtain ⟨k, rfl, hk, HK, yo, yW⟩ := hrel
    have k0 : (0 : Int) ≤ (k : Int) := by omega
    by_cases hkl : k < l.length
    · have t1 : (k : Int) < (l.length : Int) := by omega
      have HCo := Go.Lib.hid (HC.out.at yo)
      cases rt
      · have HQ : Hid (q = (1, -1)) := Go.Lib.hid (by rw [← HQ0.out]; exact ask_wrong HRT.out)
        go_wp2_with (go_at_call 11; refine (rright14 l A c _ rfl wo HCo.out _ HRT.out).mono ?_; rintro e w2 ⟨rfl, y2⟩; have x2 := yo.trans (y2.mono yo.size); dsimp only)
        exact bodyPost_ret (v := .tuple #[.int .i64 1, .int .i64 (-1)]) (results_tmp2 (t := 8) (u := 9) rfl _ _ _) rfl ⟨by rw [HQ.out], x2⟩
      · obtain ⟨ad, rfl, hcell⟩ := HC.out.cell hkl
        obtain ⟨r, hr⟩ : ∃ r, l[k] = r := ⟨_, rfl⟩
        have HR : Hid (atU l k = r) := Go.Lib.hid (by rw [atU_get hkl]; exact hr)
        have HRN : Hid (RngRu r) := Go.Lib.hid (by rw [← hr]; exact HC.out.rng _ (List.getElem_mem hkl))
        rw [hr] at hcell
        have HCE := Go.Lib.hid hcell
        obtain ⟨fits, hf⟩ : ∃ b, fitsU r f t tp = b := ⟨_, rfl⟩
        have HF := Go.Lib.hid hf
        clear hcell hr hf
        go_upto_region 4 with (go_at_call 11; refine (rright14 l (some ad) c _ rfl wo HCo.out _ HRT.out).mono ?_; rintro e w2 ⟨rfl, y2⟩; dsimp only)
        have x2 := yo.trans (y2.mono yo.size)
        have z2 := yW.trans (y2.mono yW.size)
        have HXE : Hid (∀ Y, Below w2.heap.size w2 Y → ∀ j v, (ruL r)[j]? = some v → Y.cell? ((ad.add (k * 10)).add j) = some v) := Go.Lib.hid (fun Y y => HCE.out Y (x2.trans (y.mono x2.size)))
        have HB := Go.Lib.hid (HB0.out.keep z2 HB0.out.lt)
        try simp only [Act.put, List.setIfInBounds_toArray, List.set_cons_zero, List.set_cons_succ]
        refine wp_region_held_drew (S := fun Y => Below w2.heap.size w2 Y) (by kernel_rfl) ?_ (fun hHeld => ?_)
        · exact below_drew (Below.refl _ _)
        refine wpAnyH_take (i := 0) (oi := ⟨some 21, _, _, _, _, _⟩) (v := ?_) rfl (by kernel_rfl) (by kernel_rfl) (by kernel_rfl) (fun _ _ _ h => h) (Or.inl ⟨by rfl, ?_⟩) (by assumption) ?_
        rotate_left
        · intro w hSw; (try dsimp only at hSw); go_simp; (try with_reducible rfl)
        try simp only [Act.put, List.setIfInBounds_toArray, List.set_cons_zero, List.set_cons_succ]
        refine wpAnyH_take (i := 1) (oi := ⟨some 22, _, _, _, _, _⟩) (v := ?_) rfl (by kernel_rfl) (by kernel_rfl) (by kernel_rfl) (fun _ _ _ h => h) (Or.inl ⟨by rfl, ?_⟩) (by assumption) ?_
        rotate_left
        · intro w hSw; (try dsimp only at hSw); go_simp; (try with_reducible rfl)
        try simp only [Act.put, List.setIfInBounds_toArray, List.set_cons_zero, List.set_cons_succ]
        refine wpAnyH_take (i := 2) (oi := ⟨some 23, _, _, _, _, _⟩) (v := ?_) rfl (by kernel_rfl) (by kernel_rfl) (by kernel_rfl) (fun _ _ _ h => h) (Or.inl ⟨by rfl, ?_⟩) (by assumption) ?_
        rotate_left
        · intro w hSw; (try dsimp only at hSw); go_simp; (try with_reducible rfl)
        try simp only [Act.put, List.setIfInBounds_toArray, List.set_cons_zero, List.set_cons_succ]
        refine wpAnyH_take (i := 3) (oi := ⟨some 24, _, _, _, _, _⟩) (v := (ruV r)) rfl (by kernel_rfl) (by kernel_rfl) (by kernel_rfl) (fun _ _ _ h => h) (yieldsIf_load_at (by rfl) 25 _ rfl (ad.add (k * 10)) rfl (ruL r) _ (fun Y h => HXE.out Y h) Try.underlying25 rfl info_ru) (by assumption) ?_
        try simp only [Act.put, List.setIfInBounds_toArray, List.set_cons_zero, List.set_cons_succ]
        refine wpAnyH_take (i := 4) (oi := ⟨some 25, _, _, _, _, _⟩) (v := ?_) rfl (by kernel_rfl) (by kernel_rfl) (by kernel_rfl) (fun _ _ _ h => h) (Or.inl ⟨by rfl, ?_⟩) (by assumption) ?_
        rotate_left
        · intro w hSw; (try dsimp only at hSw); go_simp; (try with_reducible rfl)
        try simp only [Act.put, List.setIfInBounds_toArray, List.set_cons_zero, List.set_cons_succ]
        refine wpAnyH_take (i := 5) (oi := ⟨some 26, _, _, _, _, _⟩) (v := ?_) rfl (by kernel_rfl) (by kernel_rfl) (by kernel_rfl) (fun _ _ _ h => h) (Or.inl ⟨by rfl, ?_⟩) (by assumption) ?_
        rotate_left
        · intro w hSw; (try dsimp only at hSw); go_simp; (try with_reducible rfl)
        try simp only [Act.put, List.setIfInBounds_toArray, List.set_cons_zero, List.set_cons_succ]
        refine wpAnyH_take (i := 6) (oi := ⟨some 27, _, _, _, _, _⟩) (v := (tpV tp)) rfl (by kernel_rfl) (by kernel_rfl) (by kernel_rfl) (fun _ _ _ h => h) (yieldsIf_load_at (by rfl) 27 _ rfl ⟨w.heap.size, 0, none⟩ rfl (tpL tp) _ (fun Y h => (HB.out.keep h HB.out.lt).at) Try.underlying27 rfl info_tp) (by assumption) ?_
        try simp only [Act.put, List.setIfInBounds_toArray, List.set_cons_zero, List.set_cons_succ]
        refine wpAnyH_ready (rs := [7]) (by kernel_rfl) (by simp) (AllReadyH.cons (o := ⟨some 28, _, _, _, _, _⟩) rfl (fun Kc hKc => ?_) AllReadyH.nil)
        go_simp
        go_at_call 13; refine (rfits14 r HRN.out f t tp HT.out _ _ HF.out).mono ?_; rintro e w7 ⟨rfl, y7⟩; dsimp only
        refine hKc.out _ _ (hHeld.trans (y7.mono hHeld.size)) (fun hHeld => ?_)
        clear hKc Kc
        try simp only [Act.put, List.setIfInBounds_toArray, List.set_cons_zero, List.set_cons_succ]
        refine wpAnyH_done (by kernel_rfl) ?_ _
        have yq := hHeld
        clear hHeld
        have xq := x2.trans (yq.mono x2.size)
        cases fits
        · go_wp2
          go_round
          case rel => exact ⟨k + 1, by go_num, by omega, Go.Lib.hid (fun j hj => by
            by_cases e : j = k
            · rw [e, HR.out]; exact HF.out
            · exact HK.out j (by omega)), xq, z2.trans (yq.mono z2.size)⟩
          case measure => simp [intOf]; omega
        · have HQ : Hid (q = (r.act, (k : Int))) := Go.Lib.hid (by rw [← HQ0.out, ← HR.out]; exact ask_at HRT.out hkl (by rw [HR.out]; exact HF.out) HK.out)
          have HA := Go.Lib.hid (HXE.out _ yq 9 _ rfl)
          obtain ⟨fr, to_, proto, src, dst, sbits, dbits, lo, hi_, act⟩ := r
          have c9 := at_off 9 (by have := HA.out; rwa [add_add] at this) (by omega)
          dsimp only at c9
          go_wp2
          exact bodyPost_ret (v := .tuple #[.int .i64 act, .int .i64 (k : Int)]) (results_tmp2 (t := 8) (u := 9) rfl _ _ _) rfl ⟨by rw [HQ.out], xq⟩

    · obtain rfl : k = l.length := by omega
      have t1 : ¬ (l.length : Int) < (l.length : Int) := by omega
      have HQ : Hid (q = (1, -1)) := Go.Lib.hid (by rw [← HQ0.out]; exact ask_no (fun j hj => HK.out j hj))
      go_wp2_with fail
      exact bodyPost_ret (v := .tuple #[.int .i64 1, .int .i64 (-1)]) (results_tmp2 (t := 8) (u := 9) rfl _ _ _) rfl ⟨by rw [HQ.out], yo⟩
end Go.Proofs.Ytacohanlpgkdeaa
