/- Statements of layer 4, walked: what is put has its head's length, its body behind it, and a sum that fits. -/
import Derived.Deep.RegionHeld3
import Derived.Test.YtghgemmbbedopaaTcpL2
import Derived.Test.YtghgemmbbedopaaSame
namespace Go.Proofs.Ytghgemmbbedopaa
open Go.ChangeShapes Go.WideShapes Go.ChangeAt Go.RowKit
set_option linter.unusedVariables false
set_option linter.unusedSimpArgs false

theorem rsame_y (A : Option Addr) (n c : Nat) (a : List UInt8) (A' : Option Addr) (n' c' : Nat) (b : List UInt8) (B B' : Nat) (W X : World) (r : Bool) (hr : (a == b) = r) (hn : a.length = n) (hn' : b.length = n') (h : Bs W B A a) (hB : B ≤ W.heap.size) (h' : Bs W B' A' b) (hB' : B' ≤ W.heap.size) (hl : n ≤ 16777216) (hl' : n' ≤ 16777216) (x : Below W.heap.size W X) :
    Calls Try.prog 12 #[.slice A n c, .slice A' n' c'] X fun e w' => e = .returned (.bool r) ∧ Below W.heap.size W w' :=
  (rsame_x A n c a A' n' c' b B B' W X r hr hn hn' h hB h' hB' hl hl' x).mono fun _ _ ⟨e, m, hw⟩ => ⟨e, hw ▸ below_dn x m⟩

set_option maxRecDepth 100000 in
set_option maxHeartbeats 8000000 in
theorem laidT (src dst : Int) (t : Tc) (Ao : Option Addr) (co : Nat) (Ab : Option Addr) (cb : Nat) (hs : 0 ≤ src ∧ src ≤ 4294967295) (hd : 0 ≤ dst ∧ dst ≤ 4294967295) (w : World) (h : TcIn w w.heap.size t Ao co Ab cb) :
    Calls Try.prog 7 #[.int .u32 src, .int .u32 dst, tcV t Ao co Ab cb] w fun e w' => e = .returned (.bool true) ∧ Below w.heap.size w w' := by
  have HI := Go.Lib.hid h
  have ol := h.olen
  have oc := h.ocap
  have bl := h.blen
  have bc := h.bcap
  clear h
  go_enter Try.func7, Try.ntmps7
  go_wp2_with fail
  refine (awakeT _).mono ?_
  rintro e w1 ⟨rfl, hb1⟩
  dsimp only
  have x1 := (Bt.start (t := t) (Ao := Ao) (co := co) (Ab := Ab) (cb := cb) (w := w)).call hb1
  clear hb1
  obtain ⟨c0, c1, c2, c3, c4, c5, c6, c7, c8⟩ := x1.cells
  obtain ⟨sh, hsh⟩ : ∃ sh, shortT t = sh := ⟨_, rfl⟩
  have HSH := Go.Lib.hid hsh
  clear hsh
  go_wp2_with fail
  refine (rshortT t Ao co Ab cb sh HSH.out w.heap.size _ (HI.out.os.below x1.below) x1.below.size ol oc bl bc).mono ?_
  rintro e w2 ⟨rfl, hb2⟩
  dsimp only
  have x2 := x1.call hb2
  clear hb2 x1 c0 c1 c2 c3 c4 c5 c6 c7 c8
  obtain ⟨c0, c1, c2, c3, c4, c5, c6, c7, c8⟩ := x2.cells
  cases sh with
  | false =>
    go_wp2
    go_ret
    exact ⟨rfl, x2.below⟩
  | true =>
    obtain ⟨hosm, l60, l3⟩ := short_osm HSH.out
    have HO := Go.Lib.hid hosm
    clear hosm
    by_cases hM : mayT t = true
    · have M := (mayT_iff t).1 hM
      have HM := Go.Lib.hid M
      obtain ⟨s, hs'⟩ : ∃ s : Nat, s = thl t.opts := ⟨_, rfl⟩
      obtain ⟨N, hN⟩ : ∃ N : Nat, N = s + t.body.length := ⟨_, rfl⟩
      have HNN : Hid (N = thl t.opts + t.body.length) := Go.Lib.hid (by rw [hN, hs'])
      have HS := Go.Lib.hid hs'
      have h40 := right_olen _ M.opts
      have hp := padN_spec (olen t.opts)
      have hs60 : s ≤ 60 := by rw [hs']; unfold thl; omega
      have hs20 : 20 + olen t.opts ≤ s ∧ s < 20 + olen t.opts + 4 := by rw [hs']; unfold thl; omega
      have hs4 : s % 4 = 0 := by rw [hs']; exact thl_four _
      have HL := Go.Lib.hid hs20
      have HSB := Go.Lib.hid hN
      have hN3 : N ≤ 3060 := by omega
      have hsN : s ≤ N := by omega
      have hs20' : 20 ≤ s := by omega
      have HJ : Hid (fo (pseudo src dst 6 (N : Int) + fo (tot (putT src dst t))) = 65535) := Go.Lib.hid (by
        have := sum_put src dst t
        unfold sumT at this
        rw [putT_length, ← HNN.out] at this
        exact this)
      have HPL : Hid ((putT src dst t).length = N) := Go.Lib.hid (by rw [putT_length, ← HNN.out])
      have HDR : Hid ((putT src dst t).drop s = t.body) := Go.Lib.hid (by rw [hs']; exact (seg_opts t (chkT src dst t)).2)
      have HG12 : Hid (g8 (putT src dst t) 12 / 16 * 4 = (s : Int)) := Go.Lib.hid (by rw [hs']; exact (seg_bytes t (chkT src dst t) M ⟨HI.out.q0, HI.out.q1⟩ ⟨HI.out.a0, HI.out.a1⟩).2.2.2.2.1)
      clear hM hN hs' M h40 hp hs20 hs4
      go_wp2_with fail
      refine (tputYes src dst t Ao co Ab cb _ HM.out hs hd (HI.out.at x2.below) N HNN.out).mono ?_
      rintro e w3 ⟨g, c, rfl, hown, hb3⟩
      dsimp only
      have x3 := x2.call hb3
      have hcap := hown.cap
      unfold maxLen at hcap
      obtain ⟨hcc1, hcc2⟩ := hcap
      have HPB := Go.Lib.hid hown.bs
      have b12 := hown.cellAt 12 (by omega)
      have E9 := HG12.out
      have g0 := g8_lo (putT src dst t) 12
      have g1 := g8_hi (putT src dst t) 12
      generalize g8 (putT src dst t) 12 = x at *
      have i12 : (12 : Int) < (N : Int) := by omega
      clear hown hb3 x2 c0 c1 c2 c3 c4 c5 c6 c7 c8
      obtain ⟨c0, c1, c2, c3, c4, c5, c6, c7, c8⟩ := x3.cells
      go_upto_region 9 with fail
      go_wp2
      have hos := HI.out.os.below x3.below
      clear b12 g0 g1 i12 E9 HG12
      go_loop [10, 11] (fun n i => ∃ k : Nat, k ≤ t.opts.length ∧ i = .int .i64 k ∧ n = .int .i64 (20 + (olen (t.opts.take k) : Nat) : Int)) (fun _ i => t.opts.length - (intOf i).toNat)
      case atStart => exact ⟨0, by omega, rfl, by simp [olen]⟩
      case round =>
        obtain ⟨k, hk, rfl, rfl⟩ := hrel
        by_cases hlt : k < t.opts.length
        · obtain ⟨ad, Ad, cd, rfl, hb, hc0, hc1, hbs, hdl, hcm, hdn⟩ := hos.at_ hlt
          have i1 : (0 : Int) ≤ (k : Int) := by omega
          have i2 : (k : Int) < (t.opts.length : Int) := by omega
          have HT := Go.Lib.hid (olen_take_succ t.opts k hlt)
          have j0 := HO.out.data _ (List.getElem_mem hlt)
          have j1 := HO.out.take_lt k
          generalize t.opts[k].data.length = d at *
          have e1 := IntWalk.i64_in ((2 : Int) + (d : Int)) (by omega)
          have e2 := IntWalk.i64_in ((20 : Int) + ((olen (t.opts.take k) : Nat) : Int) + (2 + (d : Int))) (by omega)
          clear hbs hdn
          go_wp2
          go_round
          case rel => exact ⟨k + 1, by omega, by go_num, by rw [HT.out]; go_num⟩
          case measure => simp [intOf]; omega
        · obtain rfl : k = t.opts.length := by omega
          rw [List.take_length]
          obtain ⟨o, ho⟩ : ∃ o, olen t.opts = o := ⟨_, rfl⟩
          have hl := HL.out
          rw [ho] at hl
          obtain ⟨hl1, hl2⟩ := hl
          rw [ho]
          clear ho hos
          have t54 : decide ((20 : Int) + (o : Int) ≤ (s : Int)) = true := by simp; omega
          have e58 := IntWalk.i64_in ((20 : Int) + (o : Int) + 4) (by omega)
          have t59 : decide ((s : Int) < (20 : Int) + (o : Int) + 4) = true := by simp; omega
          have e68 := IntWalk.i64_in ((s : Int) + (t.body.length : Int)) (by omega)
          have t69 : ((N : Int) == (s : Int) + (t.body.length : Int)) = true := by have := HSB.out; rw [beq_iff_eq]; omega
          have i1 : (s : Int) ≤ (N : Int) := by omega
          have i2 : (s : Int) ≤ (c : Int) := by omega
          have i3 : (0 : Int) ≤ (s : Int) := by omega
          have HBB : Hid (Bs w3 w3.heap.size (if c = s then (some ⟨g, 0, none⟩ : Option Addr) else some ⟨g, s, none⟩) t.body) := Go.Lib.hid (by
            have := HPB.out.cut s c (by rw [HPL.out]; exact hcc1) (by omega)
            rw [HDR.out] at this
            simpa using this)
          have HAB : Hid (Bs w3 w3.heap.size Ab t.body) := Go.Lib.hid (HI.out.at x3.below).bs
          have HBL : Hid (t.body.length = N - s) := Go.Lib.hid (by have := HSB.out; omega)
          have K : ∀ Y, Below w3.heap.size w3 Y → Y.cell? ⟨w.heap.size, 0, none⟩ = some (.int .i64 t.sport) ∧ Y.cell? ⟨w.heap.size, 1, none⟩ = some (.int .i64 t.dport) ∧ Y.cell? ⟨w.heap.size, 2, none⟩ = some (.int .u32 t.seq) ∧ Y.cell? ⟨w.heap.size, 3, none⟩ = some (.int .u32 t.ack) ∧ Y.cell? ⟨w.heap.size, 4, none⟩ = some (.int .i64 t.flags) ∧ Y.cell? ⟨w.heap.size, 5, none⟩ = some (.int .i64 t.win) ∧ Y.cell? ⟨w.heap.size, 6, none⟩ = some (.int .i64 t.urg) ∧ Y.cell? ⟨w.heap.size, 7, none⟩ = some (.slice Ao t.opts.length co) ∧ Y.cell? ⟨w.heap.size, 8, none⟩ = some (.slice Ab t.body.length cb) ∧ Below w3.heap.size w3 Y := fun Y y => by
            obtain ⟨c0, c1, c2, c3, c4, c5, c6, c7, c8⟩ := (x3.call y).cells
            exact ⟨c0, c1, c2, c3, c4, c5, c6, c7, c8, y⟩
          have xb := x3.below
          clear x3 hl1 hl2
          go_upto_region 14 with fail
          refine wp_region_held_drew (S := (fun Y => Y.cell? ⟨w.heap.size, 0, none⟩ = some (.int .i64 t.sport) ∧ Y.cell? ⟨w.heap.size, 1, none⟩ = some (.int .i64 t.dport) ∧ Y.cell? ⟨w.heap.size, 2, none⟩ = some (.int .u32 t.seq) ∧ Y.cell? ⟨w.heap.size, 3, none⟩ = some (.int .u32 t.ack) ∧ Y.cell? ⟨w.heap.size, 4, none⟩ = some (.int .i64 t.flags) ∧ Y.cell? ⟨w.heap.size, 5, none⟩ = some (.int .i64 t.win) ∧ Y.cell? ⟨w.heap.size, 6, none⟩ = some (.int .i64 t.urg) ∧ Y.cell? ⟨w.heap.size, 7, none⟩ = some (.slice Ao t.opts.length co) ∧ Y.cell? ⟨w.heap.size, 8, none⟩ = some (.slice Ab t.body.length cb) ∧ Below w3.heap.size w3 Y)) (by kernel_rfl) ?_ (fun hHeld => ?_)
          · exact K _ (below_drew (Below.refl _ _))
          refine wpAnyH_take (i := 0) (oi := ⟨some 52, _, _, _, _, _⟩) (v := ?_) rfl (by kernel_rfl) (by kernel_rfl) (by kernel_rfl) (fun _ _ _ h => h) (Or.inl ⟨by rfl, ?_⟩) (by assumption) ?_
          rotate_left
          · intro w hSw; (try dsimp only at hSw); go_simp; (try with_reducible rfl)
          try simp only [Act.put, List.setIfInBounds_toArray, List.set_cons_zero, List.set_cons_succ]
          refine wpAnyH_take (i := 1) (oi := ⟨some 53, _, _, _, _, _⟩) (v := ?_) rfl (by kernel_rfl) (by kernel_rfl) (by kernel_rfl) (fun _ _ _ h => h) (Or.inl ⟨by rfl, ?_⟩) (by assumption) ?_
          rotate_left
          · intro w hSw; (try dsimp only at hSw); go_simp; (try with_reducible rfl)
          try simp only [Act.put, List.setIfInBounds_toArray, List.set_cons_zero, List.set_cons_succ]
          refine wpAnyH_take (i := 2) (oi := ⟨some 54, _, _, _, _, _⟩) (v := ?_) rfl (by kernel_rfl) (by kernel_rfl) (by kernel_rfl) (fun _ _ _ h => h) (Or.inl ⟨by rfl, ?_⟩) (by assumption) ?_
          rotate_left
          · intro w hSw; (try dsimp only at hSw); go_simp; (try with_reducible rfl)
          try simp only [Act.put, List.setIfInBounds_toArray, List.set_cons_zero, List.set_cons_succ]
          refine wpAnyH_take (i := 3) (oi := ⟨some 55, _, _, _, _, _⟩) (v := ?_) rfl (by kernel_rfl) (by kernel_rfl) (by kernel_rfl) (fun _ _ _ h => h) (Or.inl ⟨by rfl, ?_⟩) (by assumption) ?_
          rotate_left
          · intro w hSw; (try dsimp only at hSw); go_simp; (try with_reducible rfl)
          try simp only [Act.put, List.setIfInBounds_toArray, List.set_cons_zero, List.set_cons_succ]
          refine wpAnyH_take (i := 4) (oi := ⟨some 56, _, _, _, _, _⟩) (v := ?_) rfl (by kernel_rfl) (by kernel_rfl) (by kernel_rfl) (fun _ _ _ h => h) (Or.inl ⟨by rfl, ?_⟩) (by assumption) ?_
          rotate_left
          · intro w hSw; (try dsimp only at hSw); go_simp; (try with_reducible rfl)
          try simp only [Act.put, List.setIfInBounds_toArray, List.set_cons_zero, List.set_cons_succ]
          refine wpAnyH_take (i := 5) (oi := ⟨some 57, _, _, _, _, _⟩) (v := ?_) rfl (by kernel_rfl) (by kernel_rfl) (by kernel_rfl) (fun _ _ _ h => h) (Or.inl ⟨by rfl, ?_⟩) (by assumption) ?_
          rotate_left
          · intro w hSw; (try dsimp only at hSw); go_simp; (try with_reducible rfl)
          try simp only [Act.put, List.setIfInBounds_toArray, List.set_cons_zero, List.set_cons_succ]
          refine wpAnyH_take (i := 6) (oi := ⟨some 58, _, _, _, _, _⟩) (v := ?_) rfl (by kernel_rfl) (by kernel_rfl) (by kernel_rfl) (fun _ _ _ h => h) (Or.inl ⟨by rfl, ?_⟩) (by assumption) ?_
          rotate_left
          · intro w hSw; (try dsimp only at hSw); go_simp; (try with_reducible rfl)
          try simp only [Act.put, List.setIfInBounds_toArray, List.set_cons_zero, List.set_cons_succ]
          refine wpAnyH_take (i := 7) (oi := ⟨some 59, _, _, _, _, _⟩) (v := ?_) rfl (by kernel_rfl) (by kernel_rfl) (by kernel_rfl) (fun _ _ _ h => h) (Or.inl ⟨by rfl, ?_⟩) (by assumption) ?_
          rotate_left
          · intro w hSw; (try dsimp only at hSw); go_simp; (try with_reducible rfl)
          try simp only [Act.put, List.setIfInBounds_toArray, List.set_cons_zero, List.set_cons_succ]
          refine wpAnyH_take (i := 8) (oi := ⟨some 60, _, _, _, _, _⟩) (v := ?_) rfl (by kernel_rfl) (by kernel_rfl) (by kernel_rfl) (fun _ _ _ h => h) (Or.inl ⟨by rfl, ?_⟩) (by assumption) ?_
          rotate_left
          · intro w hSw; (try dsimp only at hSw); go_simp; (try with_reducible rfl)
          try simp only [Act.put, List.setIfInBounds_toArray, List.set_cons_zero, List.set_cons_succ]
          refine wpAnyH_take (i := 9) (oi := ⟨some 61, _, _, _, _, _⟩) (v := ?_) rfl (by kernel_rfl) (by kernel_rfl) (by kernel_rfl) (fun _ _ _ h => h) (Or.inl ⟨by rfl, ?_⟩) (by assumption) ?_
          rotate_left
          · intro w hSw; (try dsimp only at hSw); go_simp; (try with_reducible rfl)
          try simp only [Act.put, List.setIfInBounds_toArray, List.set_cons_zero, List.set_cons_succ]
          refine wpAnyH_take (i := 10) (oi := ⟨some 62, _, _, _, _, _⟩) (v := ?_) rfl (by kernel_rfl) (by kernel_rfl) (by kernel_rfl) (fun _ _ _ h => h) (Or.inl ⟨by rfl, ?_⟩) (by assumption) ?_
          rotate_left
          · intro w hSw; (try dsimp only at hSw); go_simp; (try with_reducible rfl)
          try simp only [Act.put, List.setIfInBounds_toArray, List.set_cons_zero, List.set_cons_succ]
          refine wpAnyH_take (i := 11) (oi := ⟨some 63, _, _, _, _, _⟩) (v := ?_) rfl (by kernel_rfl) (by kernel_rfl) (by kernel_rfl) (fun _ _ _ h => h) (Or.inl ⟨by rfl, ?_⟩) (by assumption) ?_
          rotate_left
          · intro w hSw; (try dsimp only at hSw); go_simp; (try with_reducible rfl)
          try simp only [Act.put, List.setIfInBounds_toArray, List.set_cons_zero, List.set_cons_succ]
          refine wpAnyH_take (i := 12) (oi := ⟨some 64, _, _, _, _, _⟩) (v := ?_) rfl (by kernel_rfl) (by kernel_rfl) (by kernel_rfl) (fun _ _ _ h => h) (Or.inl ⟨by rfl, ?_⟩) (by assumption) ?_
          rotate_left
          · intro w hSw; (try dsimp only at hSw); go_simp; (try with_reducible rfl)
          try simp only [Act.put, List.setIfInBounds_toArray, List.set_cons_zero, List.set_cons_succ]
          refine wpAnyH_take (i := 13) (oi := ⟨some 65, _, _, _, _, _⟩) (v := ?_) rfl (by kernel_rfl) (by kernel_rfl) (by kernel_rfl) (fun _ _ _ h => h) (Or.inl ⟨by rfl, ?_⟩) (by assumption) ?_
          rotate_left
          · intro w hSw; (try dsimp only at hSw); go_simp; (try with_reducible rfl)
          try simp only [Act.put, List.setIfInBounds_toArray, List.set_cons_zero, List.set_cons_succ]
          refine wpAnyH_take (i := 14) (oi := ⟨some 66, _, _, _, _, _⟩) (v := ?_) rfl (by kernel_rfl) (by kernel_rfl) (by kernel_rfl) (fun _ _ _ h => h) (Or.inl ⟨by rfl, ?_⟩) (by assumption) ?_
          rotate_left
          · intro w hSw; (try dsimp only at hSw); go_simp; (try with_reducible rfl)
          try simp only [Act.put, List.setIfInBounds_toArray, List.set_cons_zero, List.set_cons_succ]
          refine wpAnyH_take (i := 15) (oi := ⟨some 67, _, _, _, _, _⟩) (v := ?_) rfl (by kernel_rfl) (by kernel_rfl) (by kernel_rfl) (fun _ _ _ h => h) (Or.inl ⟨by rfl, ?_⟩) (by assumption) ?_
          rotate_left
          · intro w hSw; (try dsimp only at hSw); go_simp; (try with_reducible rfl)
          try simp only [Act.put, List.setIfInBounds_toArray, List.set_cons_zero, List.set_cons_succ]
          refine wpAnyH_take (i := 16) (oi := ⟨some 68, _, _, _, _, _⟩) (v := ?_) rfl (by kernel_rfl) (by kernel_rfl) (by kernel_rfl) (fun _ _ _ h => h) (Or.inl ⟨by rfl, ?_⟩) (by assumption) ?_
          rotate_left
          · intro w hSw; (try dsimp only at hSw); go_simp; (try with_reducible rfl)
          try simp only [Act.put, List.setIfInBounds_toArray, List.set_cons_zero, List.set_cons_succ]
          refine wpAnyH_take (i := 17) (oi := ⟨some 69, _, _, _, _, _⟩) (v := ?_) rfl (by kernel_rfl) (by kernel_rfl) (by kernel_rfl) (fun _ _ _ h => h) (Or.inl ⟨by rfl, ?_⟩) (by assumption) ?_
          rotate_left
          · intro w hSw; (try dsimp only at hSw); go_simp; (try with_reducible rfl)
          try simp only [Act.put, List.setIfInBounds_toArray, List.set_cons_zero, List.set_cons_succ]
          refine wpAnyH_take (i := 18) (oi := ⟨some 70, _, _, _, _, _⟩) (v := ?_) rfl (by kernel_rfl) (by kernel_rfl) (by kernel_rfl) (fun _ _ _ h => h) (Or.inl ⟨by rfl, ?_⟩) (by assumption) ?_
          rotate_left
          · intro w hSw; (try dsimp only at hSw); go_simp; (try with_reducible rfl)
          try simp only [Act.put, List.setIfInBounds_toArray, List.set_cons_zero, List.set_cons_succ]
          refine wpAnyH_take (i := 19) (oi := ⟨some 71, _, _, _, _, _⟩) (v := ?_) rfl (by kernel_rfl) (by kernel_rfl) (by kernel_rfl) (fun _ _ _ h => h) (Or.inl ⟨by rfl, ?_⟩) (by assumption) ?_
          rotate_left
          · intro w hSw; (try dsimp only at hSw); go_simp; (try with_reducible rfl)
          try simp only [Act.put, List.setIfInBounds_toArray, List.set_cons_zero, List.set_cons_succ]
          refine wpAnyH_take (i := 20) (oi := ⟨some 72, _, _, _, _, _⟩) (v := ?_) rfl (by kernel_rfl) (by kernel_rfl) (by kernel_rfl) (fun _ _ _ h => h) (Or.inl ⟨by rfl, ?_⟩) (by assumption) ?_
          rotate_left
          · intro w hSw; (try dsimp only at hSw); go_simp; (try with_reducible rfl)
          try simp only [Act.put, List.setIfInBounds_toArray, List.set_cons_zero, List.set_cons_succ]
          refine wpAnyH_take (i := 21) (oi := ⟨some 73, _, _, _, _, _⟩) (v := ?_) rfl (by kernel_rfl) (by kernel_rfl) (by kernel_rfl) (fun _ _ _ h => h) (Or.inl ⟨by rfl, ?_⟩) (by assumption) ?_
          rotate_left
          · intro w hSw; (try dsimp only at hSw); go_simp; (try with_reducible rfl)
          try simp only [Act.put, List.setIfInBounds_toArray, List.set_cons_zero, List.set_cons_succ]
          refine wpAnyH_take (i := 22) (oi := ⟨some 74, _, _, _, _, _⟩) (v := ?_) rfl (by kernel_rfl) (by kernel_rfl) (by kernel_rfl) (fun _ _ _ h => h) (Or.inl ⟨by rfl, ?_⟩) (by assumption) ?_
          rotate_left
          · intro w hSw; (try dsimp only at hSw); go_simp; (try with_reducible rfl)
          try simp only [Act.put, List.setIfInBounds_toArray, List.set_cons_zero, List.set_cons_succ]
          refine wpAnyH_take (i := 23) (oi := ⟨some 75, _, _, _, _, _⟩) (v := ?_) rfl (by kernel_rfl) (by kernel_rfl) (by kernel_rfl) (fun _ _ _ h => h) (Or.inl ⟨by rfl, ?_⟩) (by assumption) ?_
          rotate_left
          · intro w hSw; (try dsimp only at hSw); go_simp; (try with_reducible rfl)
          try simp only [Act.put, List.setIfInBounds_toArray, List.set_cons_zero, List.set_cons_succ]
          refine wpAnyH_take (i := 24) (oi := ⟨some 76, _, _, _, _, _⟩) (v := ?_) rfl (by kernel_rfl) (by kernel_rfl) (by kernel_rfl) (fun _ _ _ h => h) (Or.inl ⟨by rfl, ?_⟩) (by assumption) ?_
          rotate_left
          · intro w hSw; (try dsimp only at hSw); go_simp; (try with_reducible rfl)
          try simp only [Act.put, List.setIfInBounds_toArray, List.set_cons_zero, List.set_cons_succ]
          refine wpAnyH_ready (rs := [25]) (by kernel_rfl) (by simp) (AllReadyH.cons (o := ⟨some 77, _, _, _, _, _⟩) rfl (fun Kc hKc => ?_) AllReadyH.nil)
          go_simp
          go_at_call 12; refine (rsame_y _ (N - s) (c - s) t.body Ab _ cb t.body w3.heap.size w3.heap.size w3 _ true (by simp) HBL.out rfl HBB.out (Nat.le_refl _) HAB.out (Nat.le_refl _) (by omega) (by omega) (below_drew (Below.refl _ _))).mono ?_; rintro e w4 ⟨rfl, y4⟩
          clear hHeld
          refine hKc.out _ _ ?_ (fun hHeld => ?_)
          · (try dsimp only); exact K _ y4
          clear hKc Kc
          try simp only [Act.put, List.setIfInBounds_toArray, List.set_cons_zero, List.set_cons_succ]
          refine wpAnyH_take (i := 26) (oi := ⟨some 78, _, _, _, _, _⟩) (v := ?_) rfl (by kernel_rfl) (by kernel_rfl) (by kernel_rfl) (fun _ _ _ h => h) (Or.inl ⟨by rfl, ?_⟩) (by assumption) ?_
          rotate_left
          · intro w hSw; (try dsimp only at hSw); go_simp; (try with_reducible rfl)
          try simp only [Act.put, List.setIfInBounds_toArray, List.set_cons_zero, List.set_cons_succ]
          refine wpAnyH_take (i := 27) (oi := ⟨some 79, _, _, _, _, _⟩) (v := ?_) rfl (by kernel_rfl) (by kernel_rfl) (by kernel_rfl) (fun _ _ _ h => h) (Or.inl ⟨by rfl, ?_⟩) (by assumption) ?_
          rotate_left
          · intro w hSw; (try dsimp only at hSw); go_simp; (try with_reducible rfl)
          try simp only [Act.put, List.setIfInBounds_toArray, List.set_cons_zero, List.set_cons_succ]
          refine wpAnyH_take (i := 28) (oi := ⟨some 80, _, _, _, _, _⟩) (v := ?_) rfl (by kernel_rfl) (by kernel_rfl) (by kernel_rfl) (fun _ _ _ h => h) (Or.inl ⟨by rfl, ?_⟩) (by assumption) ?_
          rotate_left
          · intro w hSw; (try dsimp only at hSw); go_simp; (try with_reducible rfl)
          try simp only [Act.put, List.setIfInBounds_toArray, List.set_cons_zero, List.set_cons_succ]
          refine wpAnyH_take (i := 29) (oi := ⟨some 81, _, _, _, _, _⟩) (v := ?_) rfl (by kernel_rfl) (by kernel_rfl) (by kernel_rfl) (fun _ _ _ h => h) (Or.inl ⟨by rfl, ?_⟩) (by assumption) ?_
          rotate_left
          · intro w hSw; (try dsimp only at hSw); go_simp; (try with_reducible rfl)
          try simp only [Act.put, List.setIfInBounds_toArray, List.set_cons_zero, List.set_cons_succ]
          refine wpAnyH_take (i := 30) (oi := ⟨some 82, _, _, _, _, _⟩) (v := ?_) rfl (by kernel_rfl) (by kernel_rfl) (by kernel_rfl) (fun _ _ _ h => h) (Or.inl ⟨by rfl, ?_⟩) (by assumption) ?_
          rotate_left
          · intro w hSw; (try dsimp only at hSw); go_simp; (try with_reducible rfl)
          try simp only [Act.put, List.setIfInBounds_toArray, List.set_cons_zero, List.set_cons_succ]
          refine wpAnyH_take (i := 31) (oi := ⟨some 83, _, _, _, _, _⟩) (v := ?_) rfl (by kernel_rfl) (by kernel_rfl) (by kernel_rfl) (fun _ _ _ h => h) (Or.inl ⟨by rfl, ?_⟩) (by assumption) ?_
          rotate_left
          · intro w hSw; (try dsimp only at hSw); go_simp; (try with_reducible rfl)
          try simp only [Act.put, List.setIfInBounds_toArray, List.set_cons_zero, List.set_cons_succ]
          refine wpAnyH_take (i := 33) (oi := ⟨some 85, _, _, _, _, _⟩) (v := ?_) rfl (by kernel_rfl) (by kernel_rfl) (by kernel_rfl) (fun _ _ _ h => h) (Or.inl ⟨by rfl, ?_⟩) (by assumption) ?_
          rotate_left
          · intro w hSw; (try dsimp only at hSw); go_simp; (try with_reducible rfl)
          try simp only [Act.put, List.setIfInBounds_toArray, List.set_cons_zero, List.set_cons_succ]
          refine wpAnyH_ready (rs := [32]) (by kernel_rfl) (by simp) (AllReadyH.cons (o := ⟨some 84, _, _, _, _, _⟩) rfl (fun Kc hKc => ?_) AllReadyH.nil)
          go_simp
          go_at_call 20; refine (rpseudo src dst 6 (N : Int) hs hd _).mono ?_; rintro e w5 ⟨rfl, b5⟩; have y5 := y4.trans (b5.mono y4.size)
          clear hHeld
          refine hKc.out _ _ ?_ (fun hHeld => ?_)
          · (try dsimp only); exact K _ y5
          clear hKc Kc
          try simp only [Act.put, List.setIfInBounds_toArray, List.set_cons_zero, List.set_cons_succ]
          refine wpAnyH_ready (rs := [34]) (by kernel_rfl) (by simp) (AllReadyH.cons (o := ⟨some 86, _, _, _, _, _⟩) rfl (fun Kc hKc => ?_) AllReadyH.nil)
          go_simp
          go_at_call 21; refine (rsum_n (some ⟨g, 0, none⟩) N c (putT src dst t) w3.heap.size _ HPL.out (HPB.out.below y5) y5.size (by omega) hcc1).mono ?_; rintro e w6 ⟨rfl, b6⟩; have y6 := y5.trans (b6.mono y5.size)
          clear hHeld
          refine hKc.out _ _ ?_ (fun hHeld => ?_)
          · (try dsimp only); exact K _ y6
          clear hKc Kc
          try simp only [Act.put, List.setIfInBounds_toArray, List.set_cons_zero, List.set_cons_succ]
          refine wpAnyH_ready (rs := [35]) (by kernel_rfl) (by simp) (AllReadyH.cons (o := ⟨some 87, _, _, _, _, _⟩) rfl (fun Kc hKc => ?_) AllReadyH.nil)
          go_simp
          go_at_call 19; refine (rjoin _ _ ⟨pseudo_lo src dst 6 (N : Int), fo_hi _⟩ ⟨fo_lo _, fo_hi _⟩ _).mono ?_; rintro e w7 ⟨rfl, rfl⟩; rw [HJ.out]
          clear hHeld
          refine hKc.out _ _ ?_ (fun hHeld => ?_)
          · (try dsimp only); exact K _ y6
          clear hKc Kc
          try simp only [Act.put, List.setIfInBounds_toArray, List.set_cons_zero, List.set_cons_succ]
          refine wpAnyH_take (i := 36) (oi := ⟨some 88, _, _, _, _, _⟩) (v := ?_) rfl (by kernel_rfl) (by kernel_rfl) (by kernel_rfl) (fun _ _ _ h => h) (Or.inl ⟨by rfl, ?_⟩) (by assumption) ?_
          rotate_left
          · intro w hSw; (try dsimp only at hSw); go_simp; (try with_reducible rfl)
          try simp only [Act.put, List.setIfInBounds_toArray, List.set_cons_zero, List.set_cons_succ]
          refine wpAnyH_take (i := 37) (oi := ⟨some 89, _, _, _, _, _⟩) (v := ?_) rfl (by kernel_rfl) (by kernel_rfl) (by kernel_rfl) (fun _ _ _ h => h) (Or.inl ⟨by rfl, ?_⟩) (by assumption) ?_
          rotate_left
          · intro w hSw; (try dsimp only at hSw); go_simp; (try with_reducible rfl)
          try simp only [Act.put, List.setIfInBounds_toArray, List.set_cons_zero, List.set_cons_succ]
          refine wpAnyH_take (i := 38) (oi := ⟨some 6, _, _, _, _, _⟩) (v := ?_) rfl (by kernel_rfl) (by kernel_rfl) (by kernel_rfl) (fun _ _ _ h => h) (Or.inl ⟨by rfl, ?_⟩) (by assumption) ?_
          rotate_left
          · intro w hSw; (try dsimp only at hSw); go_simp; (try with_reducible rfl)
          try simp only [Act.put, List.setIfInBounds_toArray, List.set_cons_zero, List.set_cons_succ]
          refine wpAnyH_done (by kernel_rfl) ?_ _
          go_wp2
          all_goals
            go_ret
            exact ⟨rfl, xb.trans (y6.mono xb.size)⟩
    · have hM' : mayT t = false := by simpa using hM
      clear hM
      go_wp2_with fail
      refine (tputNo src dst t Ao co Ab cb _ hM' (HI.out.at x2.below) HO.out (by omega)).mono ?_
      rintro e w3 ⟨rfl, hb3⟩
      dsimp only
      have x3 := x2.call hb3
      clear hb3 x2 c0 c1 c2 c3 c4 c5 c6 c7 c8
      go_wp2
      go_ret
      exact ⟨rfl, x3.below⟩
end Go.Proofs.Ytghgemmbbedopaa
