/- Lemmas of layer 7, several texts in one. -/
import Derived.Test.YthejakbjekjhjaaQ19
import Derived.Test.YthejakbjekjhjaaQ18
/- The contracts of slices.IndexFunc and ContainsFunc at runs with the closure of clashes, and of clashes. -/
namespace Go.Proofs.Ythejakbjekjhjaa
open Go.ChangeShapes Go.WideShapes Go.ChangeAt Go.RowKit
set_option linter.unusedVariables false
set_option linter.unusedSimpArgs false

theorem any_take_step (f : Rn → Bool) (l : List Rn) (k : Nat) (h : k < l.length) : (l.take (k + 1)).any f = ((l.take k).any f || f l[k]) := by
  rw [List.take_succ_eq_append_getElem h, List.any_append]; simp
theorem any_at (f : Rn → Bool) (l : List Rn) (k : Nat) (h : k < l.length) (hf : f l[k] = true) : l.any f = true := List.any_eq_true.2 ⟨_, List.getElem_mem h, hf⟩
set_option maxRecDepth 100000 in
set_option maxHeartbeats 8000000 in
theorem cidxR (rs : List Rn) (A : Option Addr) (c : Nat) (ge gx : Nat) (off stop : Int) (mf : Bool) (w : World) (V : Nat → Prop) (hr : Rs w V A rs) (lt : ∀ b, V b → b < w.heap.size) (hc : rs.length ≤ c) (hc2 : c ≤ 9223372036854775807) (he : w.cell? ⟨ge, 0, none⟩ = some (.int .i64 stop)) (h4 : w.cell? ⟨gx, 4, none⟩ = some (.int .i64 off)) (h3 : w.cell? ⟨gx, 3, none⟩ = some (.bool mf))
    (hb : ∀ r ∈ rs, -9223372036854775808 ≤ stopR r ∧ stopR r ≤ 9223372036854775807) :
    Calls Try.prog 53 #[.slice A rs.length c, .func (.func 39) #[] #[.pointer (some ⟨ge, 0, none⟩), .pointer (some ⟨gx, 0, none⟩)]] w fun e w' => ∃ k : Int, e = .returned (.int .i64 k) ∧ decide (0 ≤ k) = rs.any (fun r => clR r off stop mf) ∧ Below w.heap.size w w' := by
  have HR := Go.Lib.hid hr
  have HV := Go.Lib.hid lt
  have HE := Go.Lib.hid he
  have H4 := Go.Lib.hid h4
  have H3 := Go.Lib.hid h3
  have lge := World.block_lt_of_cell? w _ he
  have lgx := World.block_lt_of_cell? w _ h4
  have HB := Go.Lib.hid hb
  clear hr lt he h4 h3 hb
  go_enter Try.func53, Try.ntmps53
  go_wp2
  go_loopw [8] (fun i wr => ∃ k : Nat, k ≤ rs.length ∧ i = .int .i64 k ∧ Hid ((rs.take k).any (fun r => clR r off stop mf) = false) ∧ Below w.heap.size w wr) (fun i _ => rs.length - (intOf i).toNat)
  case atStart => exact ⟨0, by omega, rfl, Go.Lib.hid (by simp), Below.refl _ _⟩
  case round =>
    rename World => wo
    obtain ⟨k, hk, rfl, HT, x1⟩ := hrel
    by_cases hlt : k < rs.length
    · obtain ⟨ad, Ad, cd, rfl, hb, r0, r1, rb⟩ := (HR.out.keep (KeepV.of x1 HV.out)).at_ hlt
      have HBB := HB.out _ (List.getElem_mem hlt)
      have HS := Go.Lib.hid (any_take_step (fun r => clR r off stop mf) rs k hlt)
      have HA : Hid (∀ x, rs[k] = x → clR x off stop mf = true → rs.any (fun r => clR r off stop mf) = true) := Go.Lib.hid (fun x h hx => any_at _ rs k hlt (by rw [h]; exact hx))
      have i1 : (0 : Int) ≤ (k : Int) := by omega
      have i2 : (k : Int) < (rs.length : Int) := by omega
      clear rb
      generalize hd : rs[k] = y at *
      have HA2 := Go.Lib.hid (HA.out y rfl)
      clear HA hd
      obtain ⟨e1, e2⟩ := HBB
      cases hq : clR y off stop mf
      · go_wp2_with (first
          | (go_at_call 39; refine (cclash1 y Ad cd ge gx off stop mf false hq _ ((x1.cell (p := ⟨ge, 0, none⟩) lge).trans HE.out) ((x1.cell (p := ⟨gx, 4, none⟩) lgx).trans H4.out) ((x1.cell (p := ⟨gx, 3, none⟩) lgx).trans H3.out) e1 e2).mono ?_; rintro e w' ⟨rfl, hcall⟩; dsimp only))
        go_round
        case rel => exact ⟨k + 1, by omega, by go_num, Go.Lib.hid (by rw [HS.out, HT.out]; exact hq), x1.trans (hcall.mono x1.size)⟩
        case measure => simp [intOf]; omega
      · go_wp2_with (first
          | (go_at_call 39; refine (cclash1 y Ad cd ge gx off stop mf true hq _ ((x1.cell (p := ⟨ge, 0, none⟩) lge).trans HE.out) ((x1.cell (p := ⟨gx, 4, none⟩) lgx).trans H4.out) ((x1.cell (p := ⟨gx, 3, none⟩) lgx).trans H3.out) e1 e2).mono ?_; rintro e w' ⟨rfl, hcall⟩; dsimp only))
        go_ret
        exact ⟨k, rfl, by rw [HA2.out hq]; simp, x1.trans (hcall.mono x1.size)⟩
    · obtain rfl : k = rs.length := by omega
      go_wp2
      go_ret
      exact ⟨-1, rfl, by have := HT.out; rw [List.take_length] at this; rw [this]; decide, x1⟩
set_option maxRecDepth 100000 in
set_option maxHeartbeats 4000000 in
theorem ccontR (rs : List Rn) (A : Option Addr) (c : Nat) (ge gx : Nat) (off stop : Int) (mf : Bool) (w : World) (V : Nat → Prop) (hr : Rs w V A rs) (lt : ∀ b, V b → b < w.heap.size) (hc : rs.length ≤ c) (hc2 : c ≤ 9223372036854775807) (he : w.cell? ⟨ge, 0, none⟩ = some (.int .i64 stop)) (h4 : w.cell? ⟨gx, 4, none⟩ = some (.int .i64 off)) (h3 : w.cell? ⟨gx, 3, none⟩ = some (.bool mf))
    (hb : ∀ r ∈ rs, -9223372036854775808 ≤ stopR r ∧ stopR r ≤ 9223372036854775807) :
    Calls Try.prog 38 #[.slice A rs.length c, .func (.func 39) #[] #[.pointer (some ⟨ge, 0, none⟩), .pointer (some ⟨gx, 0, none⟩)]] w fun e w' => e = .returned (.bool (rs.any (fun r => clR r off stop mf))) ∧ Below w.heap.size w w' := by
  have HX := Go.Lib.hid (cidxR rs A c ge gx off stop mf w V hr lt hc hc2 he h4 h3 hb)
  clear hr he h4 h3 hb lt
  go_enter Try.func38, Try.ntmps38
  go_wp2_with (first
    | (go_at_call 53; refine HX.out.mono ?_; rintro e w' ⟨k, rfl, hk, hcall⟩; have HK := Go.Lib.hid hk; clear hk; dsimp only))
  go_ret
  exact ⟨ret_bool HK.out, hcall⟩
theorem clash_code {b : Bf} {x : Pk} (t0 : b.total = -1 ∨ 1 ≤ b.total) : clashB b x = (((b.total != -1) && (!x.mf || decide (b.total < x.off + (x.body.length : Int)))) || b.runs.any (fun r => clR r x.off (x.off + (x.body.length : Int)) x.mf)) := by
  unfold clashB clR
  congr 1
  congr 1
  rw [Bool.eq_iff_iff, decide_eq_true_eq, bne_iff_ne]
  omega
set_option maxRecDepth 100000 in
set_option maxHeartbeats 4000000 in
theorem cclashes (b : Bf) (Ao : Option Addr) (co : Nat) (Ab : Option Addr) (cb : Nat) (Ar : Option Addr) (cr : Nat) (x : Pk) (Bo : Option Addr) (do_ : Nat) (Bb : Option Addr) (db : Nat) (q : Bool) (hq : clashB b x = q) (w : World) (V : Nat → Prop) (hB : BfAt w V b Ao co Ab cb Ar cr) (hR : RunsOk b.total 0 b.runs) (t0 : b.total = -1 ∨ 1 ≤ b.total) (x0 : 0 ≤ x.off) (x1 : x.off ≤ 65535) (xb : x.body.length ≤ 16777216) :
    Calls Try.prog 21 #[bfV b Ao co Ab cb Ar cr, ipV x Bo do_ Bb db] w fun e w' => e = .returned (.bool q) ∧ Below w.heap.size w w' := by
  rw [clash_code t0] at hq
  have HQ := Go.Lib.hid hq
  have HRB : Hid (∀ r ∈ b.runs, -9223372036854775808 ≤ stopR r ∧ stopR r ≤ 9223372036854775807) := Go.Lib.hid (fun r hr => by
    have := runs_each _ _ _ hR (Int.le_refl 0) r hr
    have h2 : stopR r = r.off + (r.data.length : Int) := rfl
    omega)
  have y0 : Below w.heap.size w ((w.alloc (oBf b Ao co Ab cb Ar cr)).alloc (oPk x Bo do_ Bb db)) := below_alloc (below_alloc (Below.refl _ _) (Nat.le_refl _) _) (by simp) _
  have h1 := (Bxo.made w 42 (bfL b Ao co Ab cb Ar cr)).alloc (oPk x Bo do_ Bb db)
  have h2 : Bxo ((w.alloc (oBf b Ao co Ab cb Ar cr)).alloc (oPk x Bo do_ Bb db)) (w.heap.size + 1) 33 (pkL x Bo do_ Bb db) := by
    have := Bxo.made (w.alloc (oBf b Ao co Ab cb Ar cr)) 33 (pkL x Bo do_ Bb db)
    simpa using this
  have hz : ((w.alloc (oBf b Ao co Ab cb Ar cr)).alloc (oPk x Bo do_ Bb db)).heap.size = w.heap.size + 2 := by simp
  have hB2 := hB.at y0
  have rlen := hB.rlen
  have rcap := hB.rcap
  have e1 := IntWalk.i64_in (x.off + (x.body.length : Int)) (by omega)
  clear hB hq hR
  go_enter Try.func21, Try.ntmps21
  go_upto_region 1 with fail
  generalize ((w.alloc (oBf b Ao co Ab cb Ar cr)).alloc (oPk x Bo do_ Bb db)) = W at *
  have H1 := Go.Lib.hid h1
  have H2 := Go.Lib.hid h2
  have HB2 := Go.Lib.hid hB2
  clear h1 h2 hB2
  have c4 := H2.out.cell 4 rfl
  have c10 := H2.out.cell 10 rfl
  go_upto_region 2 with fail
  have y3 : Below W.heap.size W (W.alloc (.cells #[.int .i64 (x.off + (x.body.length : Int))] 3)) := (Below.refl _ _).alloc (Nat.le_refl _) _
  have HE3 : Hid ((W.alloc (.cells #[.int .i64 (x.off + (x.body.length : Int))] 3)).cell? ⟨W.heap.size, 0, none⟩ = some (.int .i64 (x.off + (x.body.length : Int)))) := Go.Lib.hid (by simp [go_sem])
  have K1 := Go.Lib.hid (H1.out.alloc (.cells #[.int .i64 (x.off + (x.body.length : Int))] 3))
  have K2 := Go.Lib.hid (H2.out.alloc (.cells #[.int .i64 (x.off + (x.body.length : Int))] 3))
  have HB3 := Go.Lib.hid (HB2.out.at y3)
  generalize W.alloc (.cells #[.int .i64 (x.off + (x.body.length : Int))] 3) = W3 at *
  have ce := HE3.out
  rw [hz] at ce
  have hx0 : y0.size = y0.size := rfl
  clear c4 c10 hx0
  have c17 := K1.out.cell 17 rfl
  have c18 := K1.out.cell 18 rfl
  have c3 := K2.out.cell 3 rfl
  generalize hany : b.runs.any (fun r => clR r x.off (x.off + (x.body.length : Int)) x.mf) = an at *
  have HAN := Go.Lib.hid hany
  clear hany
  by_cases h1 : b.total = -1
  · have t1 : (b.total != -1) = false := by simp [h1]
    have HQ2 : Hid (q = an) := Go.Lib.hid (by rw [← HQ.out, t1]; rfl)
    clear h1 HQ
    go_wp2_with (first
      | (go_at_call 38; refine (ccontR b.runs Ar cr (w.heap.size + 2) (w.heap.size + 1) x.off (x.off + (x.body.length : Int)) x.mf _ V HB3.out.runs HB3.out.lt rlen rcap ce (K2.out.cell 4 rfl) (K2.out.cell 3 rfl) HRB.out).mono ?_; rintro e w' ⟨rfl, hcall⟩; dsimp only))
    go_ret
    exact ⟨ret_bool (by rw [HQ2.out, HAN.out]), (y0.trans (y3.mono y0.size)).trans (hcall.mono (Nat.le_trans y0.size y3.size))⟩
  · have t1 : (b.total != -1) = true := by simp [h1]
    clear h1
    cases hm : x.mf
    · have HQ2 : Hid (q = true) := Go.Lib.hid (by rw [← HQ.out, t1, hm]; rfl)
      rw [hm] at c3
      clear HQ
      go_wp2
      go_ret
      exact ⟨ret_bool (by rw [HQ2.out]), y0.trans (y3.mono y0.size)⟩
    · by_cases h2 : b.total < x.off + (x.body.length : Int)
      · have HQ2 : Hid (q = true) := Go.Lib.hid (by rw [← HQ.out, t1, hm]; simp [h2])
        rw [hm] at c3
        clear HQ
        go_wp2
        go_ret
        exact ⟨ret_bool (by rw [HQ2.out]), y0.trans (y3.mono y0.size)⟩
      · have HQ2 : Hid (q = an) := Go.Lib.hid (by rw [← HQ.out, t1, hm]; simp [h2])
        have K2' := K2
        rw [hm] at c3
        clear HQ
        have HM := Go.Lib.hid hm
        clear hm
        go_wp2_with (first
      | (go_at_call 38; refine (ccontR b.runs Ar cr (w.heap.size + 2) (w.heap.size + 1) x.off (x.off + (x.body.length : Int)) x.mf _ V HB3.out.runs HB3.out.lt rlen rcap ce (K2.out.cell 4 rfl) (K2.out.cell 3 rfl) HRB.out).mono ?_; rintro e w' ⟨rfl, hcall⟩; dsimp only))
        go_ret
        exact ⟨ret_bool (by rw [HQ2.out, HAN.out]), (y0.trans (y3.mono y0.size)).trans (hcall.mono (Nat.le_trans y0.size y3.size))⟩
end Go.Proofs.Ythejakbjekjhjaa
