/- Statements of layer 4, walked: any segment is put as the document says. -/
import Derived.Deep.RegionHeld3
import Derived.Test.YtghgemmbbedopaaTcpL4
namespace Go.Proofs.Ytghgemmbbedopaa
open Go.ChangeShapes Go.WideShapes Go.ChangeAt Go.RowKit
set_option linter.unusedVariables false
set_option linter.unusedSimpArgs false

/-- two boxed segments. -/
structure Bu (t : Tc) (Ao : Option Addr) (co : Nat) (Ab : Option Addr) (cb : Nat) (u : Tc) (Ao' : Option Addr) (co' : Nat) (Ab' : Option Addr) (cb' : Nat) (w w' : World) : Prop where
  b : Below (w.heap.size + 2) ((w.alloc (tcO t Ao co Ab cb)).alloc (tcO u Ao' co' Ab' cb')) w'
section
variable {t u : Tc} {Ao : Option Addr} {co : Nat} {Ab : Option Addr} {cb : Nat} {Ao' : Option Addr} {co' : Nat} {Ab' : Option Addr} {cb' : Nat} {w w' w'' : World}
theorem Bu.start : Bu t Ao co Ab cb u Ao' co' Ab' cb' w ((w.alloc (tcO t Ao co Ab cb)).alloc (tcO u Ao' co' Ab' cb')) := ⟨Below.refl _ _⟩
theorem Bu.size (h : Bu t Ao co Ab cb u Ao' co' Ab' cb' w w') : w.heap.size + 2 ≤ w'.heap.size := by have := h.b.size; simpa using this
theorem Bu.call (h : Bu t Ao co Ab cb u Ao' co' Ab' cb' w w') (hb : Below w'.heap.size w' w'') : Bu t Ao co Ab cb u Ao' co' Ab' cb' w w'' := ⟨h.b.trans (hb.mono h.size)⟩
theorem Bu.below (h : Bu t Ao co Ab cb u Ao' co' Ab' cb' w w') : Below w.heap.size w w' := (((Below.refl _ _).alloc (Nat.le_refl _) _).alloc (by simp) _).trans (h.b.mono (by omega))
theorem Bu.cells (h : Bu t Ao co Ab cb u Ao' co' Ab' cb' w w') : w'.cell? ⟨w.heap.size, 0, none⟩ = some (.int .i64 t.sport) ∧ w'.cell? ⟨w.heap.size, 1, none⟩ = some (.int .i64 t.dport) ∧ w'.cell? ⟨w.heap.size, 2, none⟩ = some (.int .u32 t.seq) ∧ w'.cell? ⟨w.heap.size, 3, none⟩ = some (.int .u32 t.ack) ∧ w'.cell? ⟨w.heap.size, 4, none⟩ = some (.int .i64 t.flags) ∧ w'.cell? ⟨w.heap.size, 5, none⟩ = some (.int .i64 t.win) ∧ w'.cell? ⟨w.heap.size, 6, none⟩ = some (.int .i64 t.urg) ∧ w'.cell? ⟨w.heap.size, 7, none⟩ = some (.slice Ao t.opts.length co) ∧ w'.cell? ⟨w.heap.size, 8, none⟩ = some (.slice Ab t.body.length cb) ∧ w'.cell? ⟨w.heap.size + 1, 0, none⟩ = some (.int .i64 u.sport) ∧ w'.cell? ⟨w.heap.size + 1, 1, none⟩ = some (.int .i64 u.dport) ∧ w'.cell? ⟨w.heap.size + 1, 2, none⟩ = some (.int .u32 u.seq) ∧ w'.cell? ⟨w.heap.size + 1, 3, none⟩ = some (.int .u32 u.ack) ∧ w'.cell? ⟨w.heap.size + 1, 4, none⟩ = some (.int .i64 u.flags) ∧ w'.cell? ⟨w.heap.size + 1, 5, none⟩ = some (.int .i64 u.win) ∧ w'.cell? ⟨w.heap.size + 1, 6, none⟩ = some (.int .i64 u.urg) ∧ w'.cell? ⟨w.heap.size + 1, 7, none⟩ = some (.slice Ao' u.opts.length co') ∧ w'.cell? ⟨w.heap.size + 1, 8, none⟩ = some (.slice Ab' u.body.length cb') := by
  have s1 : w.heap.size < (w.alloc (tcO t Ao co Ab cb)).heap.size := by simp
  have m1 : tcIs ((w.alloc (tcO t Ao co Ab cb)).alloc (tcO u Ao' co' Ab' cb')) w.heap.size t Ao co Ab cb := tcIs.call tcIs.made ((Below.refl _ _).alloc (Nat.le_refl _) _) s1
  have m2 : tcIs ((w.alloc (tcO t Ao co Ab cb)).alloc (tcO u Ao' co' Ab' cb')) (w.heap.size + 1) u Ao' co' Ab' cb' := by
    have := tcIs.made (w := w.alloc (tcO t Ao co Ab cb)) (t := u) (A_opts := Ao') (c_opts := co') (A_body := Ab') (c_body := cb')
    simpa using this
  obtain ⟨c0, c1, c2, c3, c4, c5, c6, c7, c8⟩ := (m1.keep h.b (by omega)).cells
  obtain ⟨d0, d1, d2, d3, d4, d5, d6, d7, d8⟩ := (m2.keep h.b (by omega)).cells
  exact ⟨c0, c1, c2, c3, c4, c5, c6, c7, c8, d0, d1, d2, d3, d4, d5, d6, d7, d8⟩
end
theorem rsameT_v (t : Tc) (Ao : Option Addr) (co : Nat) (Ab : Option Addr) (cb : Nat) (u : Tc) (Ao' : Option Addr) (co' : Nat) (Ab' : Option Addr) (cb' : Nat) (B : Nat) (w : World) (hB : B ≤ w.heap.size)
    (hI : TcIn w B t Ao co Ab cb) (hJ : TcIn w B u Ao' co' Ab' cb') (l1 : t.body.length ≤ 16777216) (l2 : u.body.length ≤ 16777216) (l3 : ∀ o ∈ t.opts, o.data.length ≤ 16777216) (l4 : ∀ o ∈ u.opts, o.data.length ≤ 16777216) (v : Bool) (hv : sameT t u = v) :
    Calls Try.prog 14 #[tcV t Ao co Ab cb, tcV u Ao' co' Ab' cb'] w fun e w' => e = .returned (.bool v) ∧ Below w.heap.size w w' := hv ▸ rsameT t Ao co Ab cb u Ao' co' Ab' cb' B w hB hI hJ l1 l2 l3 l4

set_option maxRecDepth 100000 in
set_option maxHeartbeats 16000000 in
theorem putsT (src dst : Int) (t : Tc) (Ao : Option Addr) (co : Nat) (Ab : Option Addr) (cb : Nat) (u : Tc) (Ao' : Option Addr) (co' : Nat) (Ab' : Option Addr) (cb' : Nat) (kd : Int) (hs : 0 ≤ src ∧ src ≤ 4294967295) (hd : 0 ≤ dst ∧ dst ≤ 4294967295) (w : World) (h : TcIn w w.heap.size t Ao co Ab cb) (h' : TcIn w w.heap.size u Ao' co' Ab' cb') :
    Calls Try.prog 3 #[.int .u32 src, .int .u32 dst, tcV t Ao co Ab cb, tcV u Ao' co' Ab' cb', .int .i64 kd] w fun e w' => e = .returned (.bool true) ∧ Below w.heap.size w w' := by
  have HI := Go.Lib.hid h
  have HJ := Go.Lib.hid h'
  have ol := h.olen
  have oc := h.ocap
  have bl := h.blen
  have bc := h.bcap
  have ol' := h'.olen
  have oc' := h'.ocap
  have bl' := h'.blen
  have bc' := h'.bcap
  obtain ⟨L, n, r, hL⟩ := putTL src dst t
  have HL := Go.Lib.hid hL
  have HLL := Go.Lib.hid hL.len
  have hn65 := hL.small
  clear h h' hL
  go_enter Try.func3, Try.ntmps3
  go_wp2_with fail
  refine (awakeT _).mono ?_
  rintro e w1 ⟨rfl, hb1⟩
  dsimp only
  have x1 := (Bu.start (t := t) (Ao := Ao) (co := co) (Ab := Ab) (cb := cb) (u := u) (Ao' := Ao') (co' := co') (Ab' := Ab') (cb' := cb') (w := w)).call hb1
  clear hb1
  obtain ⟨c0, c1, c2, c3, c4, c5, c6, c7, c8, d0, d1, d2, d3, d4, d5, d6, d7, d8⟩ := x1.cells
  obtain ⟨sh, hsh⟩ : ∃ sh, shortT t = sh := ⟨_, rfl⟩
  have HSH := Go.Lib.hid hsh
  clear hsh
  go_wp2_with fail
  refine (rshortT t Ao co Ab cb sh HSH.out w.heap.size _ (HI.out.os.below x1.below) x1.below.size ol oc bl bc).mono ?_
  rintro e w2 ⟨rfl, hb2⟩
  dsimp only
  have x2 := x1.call hb2
  clear hb2 x1 c0 c1 c2 c3 c4 c5 c6 c7 c8 d0 d1 d2 d3 d4 d5 d6 d7 d8
  obtain ⟨c0, c1, c2, c3, c4, c5, c6, c7, c8, d0, d1, d2, d3, d4, d5, d6, d7, d8⟩ := x2.cells
  cases sh with
  | false =>
    go_wp2
    go_ret
    exact ⟨rfl, x2.below⟩
  | true =>
    obtain ⟨hosm, l60, lb⟩ := short_osm HSH.out
    have HO := Go.Lib.hid hosm
    have L3 := Go.Lib.hid (fun o ho => Nat.le_trans (hosm.data o ho) (show 65536 ≤ 16777216 by omega))
    clear hosm
    obtain ⟨sh, hsh⟩ : ∃ sh, shortT u = sh := ⟨_, rfl⟩
    have HSH2 := Go.Lib.hid hsh
    clear hsh
    go_wp2_with fail
    refine (rshortT u Ao' co' Ab' cb' sh HSH2.out w.heap.size _ (HJ.out.os.below x2.below) x2.below.size ol' oc' bl' bc').mono ?_
    rintro e w3 ⟨rfl, hb3⟩
    dsimp only
    have x3 := x2.call hb3
    clear hb3 x2 c0 c1 c2 c3 c4 c5 c6 c7 c8 d0 d1 d2 d3 d4 d5 d6 d7 d8
    obtain ⟨c0, c1, c2, c3, c4, c5, c6, c7, c8, d0, d1, d2, d3, d4, d5, d6, d7, d8⟩ := x3.cells
    cases sh with
    | false =>
      go_wp2
      go_ret
      exact ⟨rfl, x3.below⟩
    | true =>
      obtain ⟨hosm2, l60', lb'⟩ := short_osm HSH2.out
      have L4 := Go.Lib.hid (fun o ho => Nat.le_trans (hosm2.data o ho) (show 65536 ≤ 16777216 by omega))
      clear hosm2
      go_wp2_with fail
      refine (tputU src dst t Ao co Ab cb L n r HL.out _ hs hd (HI.out.at x3.below) HO.out (by omega)).mono ?_
      rintro e w4 ⟨A1, k1, rfl, hB4, hb4⟩
      dsimp only
      have x4 := x3.call hb4
      have HB4' := Go.Lib.hid hB4
      clear hb4 hB4 x3 c0 c1 c2 c3 c4 c5 c6 c7 c8 d0 d1 d2 d3 d4 d5 d6 d7 d8
      obtain ⟨c0, c1, c2, c3, c4, c5, c6, c7, c8, d0, d1, d2, d3, d4, d5, d6, d7, d8⟩ := x4.cells
      go_wp2_with fail
      refine (rputT src dst t Ao co Ab cb L n r HL.out _ hs hd (HI.out.at x4.below) (by omega)).mono ?_
      rintro e w5 ⟨A2, k2, rfl, hB5, hb5⟩
      dsimp only
      have x5 := x4.call hb5
      have HB4 := Go.Lib.hid ((HB4'.out.below hb5).more hb5.size)
      have HB5 := Go.Lib.hid hB5
      clear hb5 hB5 x4 HB4' c0 c1 c2 c3 c4 c5 c6 c7 c8 d0 d1 d2 d3 d4 d5 d6 d7 d8
      obtain ⟨v, hv⟩ : ∃ v, sameT t u = v := ⟨_, rfl⟩
      have HV := Go.Lib.hid hv
      clear hv
      have K : ∀ Y, Below w5.heap.size w5 Y → Y.cell? ⟨w.heap.size, 0, none⟩ = some (.int .i64 t.sport) ∧ Y.cell? ⟨w.heap.size, 1, none⟩ = some (.int .i64 t.dport) ∧ Y.cell? ⟨w.heap.size, 2, none⟩ = some (.int .u32 t.seq) ∧ Y.cell? ⟨w.heap.size, 3, none⟩ = some (.int .u32 t.ack) ∧ Y.cell? ⟨w.heap.size, 4, none⟩ = some (.int .i64 t.flags) ∧ Y.cell? ⟨w.heap.size, 5, none⟩ = some (.int .i64 t.win) ∧ Y.cell? ⟨w.heap.size, 6, none⟩ = some (.int .i64 t.urg) ∧ Y.cell? ⟨w.heap.size, 7, none⟩ = some (.slice Ao t.opts.length co) ∧ Y.cell? ⟨w.heap.size, 8, none⟩ = some (.slice Ab t.body.length cb) ∧ Y.cell? ⟨w.heap.size + 1, 0, none⟩ = some (.int .i64 u.sport) ∧ Y.cell? ⟨w.heap.size + 1, 1, none⟩ = some (.int .i64 u.dport) ∧ Y.cell? ⟨w.heap.size + 1, 2, none⟩ = some (.int .u32 u.seq) ∧ Y.cell? ⟨w.heap.size + 1, 3, none⟩ = some (.int .u32 u.ack) ∧ Y.cell? ⟨w.heap.size + 1, 4, none⟩ = some (.int .i64 u.flags) ∧ Y.cell? ⟨w.heap.size + 1, 5, none⟩ = some (.int .i64 u.win) ∧ Y.cell? ⟨w.heap.size + 1, 6, none⟩ = some (.int .i64 u.urg) ∧ Y.cell? ⟨w.heap.size + 1, 7, none⟩ = some (.slice Ao' u.opts.length co') ∧ Y.cell? ⟨w.heap.size + 1, 8, none⟩ = some (.slice Ab' u.body.length cb') ∧ Below w5.heap.size w5 Y := fun Y y => by
        obtain ⟨c0, c1, c2, c3, c4, c5, c6, c7, c8, d0, d1, d2, d3, d4, d5, d6, d7, d8⟩ := (x5.call y).cells
        exact ⟨c0, c1, c2, c3, c4, c5, c6, c7, c8, d0, d1, d2, d3, d4, d5, d6, d7, d8, y⟩
      go_upto_region 7 with fail
      refine wp_region_held_drew (S := (fun Y => Y.cell? ⟨w.heap.size, 0, none⟩ = some (.int .i64 t.sport) ∧ Y.cell? ⟨w.heap.size, 1, none⟩ = some (.int .i64 t.dport) ∧ Y.cell? ⟨w.heap.size, 2, none⟩ = some (.int .u32 t.seq) ∧ Y.cell? ⟨w.heap.size, 3, none⟩ = some (.int .u32 t.ack) ∧ Y.cell? ⟨w.heap.size, 4, none⟩ = some (.int .i64 t.flags) ∧ Y.cell? ⟨w.heap.size, 5, none⟩ = some (.int .i64 t.win) ∧ Y.cell? ⟨w.heap.size, 6, none⟩ = some (.int .i64 t.urg) ∧ Y.cell? ⟨w.heap.size, 7, none⟩ = some (.slice Ao t.opts.length co) ∧ Y.cell? ⟨w.heap.size, 8, none⟩ = some (.slice Ab t.body.length cb) ∧ Y.cell? ⟨w.heap.size + 1, 0, none⟩ = some (.int .i64 u.sport) ∧ Y.cell? ⟨w.heap.size + 1, 1, none⟩ = some (.int .i64 u.dport) ∧ Y.cell? ⟨w.heap.size + 1, 2, none⟩ = some (.int .u32 u.seq) ∧ Y.cell? ⟨w.heap.size + 1, 3, none⟩ = some (.int .u32 u.ack) ∧ Y.cell? ⟨w.heap.size + 1, 4, none⟩ = some (.int .i64 u.flags) ∧ Y.cell? ⟨w.heap.size + 1, 5, none⟩ = some (.int .i64 u.win) ∧ Y.cell? ⟨w.heap.size + 1, 6, none⟩ = some (.int .i64 u.urg) ∧ Y.cell? ⟨w.heap.size + 1, 7, none⟩ = some (.slice Ao' u.opts.length co') ∧ Y.cell? ⟨w.heap.size + 1, 8, none⟩ = some (.slice Ab' u.body.length cb') ∧ Below w5.heap.size w5 Y)) (by kernel_rfl) ?_ (fun hHeld => ?_)
      · exact K _ (below_drew (Below.refl _ _))
      refine wpAnyH_take (i := 0) (oi := ⟨some 43, _, _, _, _, _⟩) (v := ?_) rfl (by kernel_rfl) (by kernel_rfl) (by kernel_rfl) (fun _ _ _ h => h) (Or.inl ⟨by rfl, ?_⟩) (by assumption) ?_
      rotate_left
      · intro w hSw; (try dsimp only at hSw); go_simp; (try with_reducible rfl)
      try simp only [Act.put, List.setIfInBounds_toArray, List.set_cons_zero, List.set_cons_succ]
      refine wpAnyH_take (i := 1) (oi := ⟨some 44, _, _, _, _, _⟩) (v := ?_) rfl (by kernel_rfl) (by kernel_rfl) (by kernel_rfl) (fun _ _ _ h => h) (Or.inl ⟨by rfl, ?_⟩) (by assumption) ?_
      rotate_left
      · intro w hSw; (try dsimp only at hSw); go_simp; (try with_reducible rfl)
      try simp only [Act.put, List.setIfInBounds_toArray, List.set_cons_zero, List.set_cons_succ]
      refine wpAnyH_take (i := 2) (oi := ⟨some 45, _, _, _, _, _⟩) (v := ?_) rfl (by kernel_rfl) (by kernel_rfl) (by kernel_rfl) (fun _ _ _ h => h) (Or.inl ⟨by rfl, ?_⟩) (by assumption) ?_
      rotate_left
      · intro w hSw; (try dsimp only at hSw); go_simp; (try with_reducible rfl)
      try simp only [Act.put, List.setIfInBounds_toArray, List.set_cons_zero, List.set_cons_succ]
      refine wpAnyH_take (i := 3) (oi := ⟨some 46, _, _, _, _, _⟩) (v := ?_) rfl (by kernel_rfl) (by kernel_rfl) (by kernel_rfl) (fun _ _ _ h => h) (Or.inl ⟨by rfl, ?_⟩) (by assumption) ?_
      rotate_left
      · intro w hSw; (try dsimp only at hSw); go_simp; (try with_reducible rfl)
      try simp only [Act.put, List.setIfInBounds_toArray, List.set_cons_zero, List.set_cons_succ]
      refine wpAnyH_take (i := 4) (oi := ⟨some 47, _, _, _, _, _⟩) (v := ?_) rfl (by kernel_rfl) (by kernel_rfl) (by kernel_rfl) (fun _ _ _ h => h) (Or.inl ⟨by rfl, ?_⟩) (by assumption) ?_
      rotate_left
      · intro w hSw; (try dsimp only at hSw); go_simp; (try with_reducible rfl)
      try simp only [Act.put, List.setIfInBounds_toArray, List.set_cons_zero, List.set_cons_succ]
      refine wpAnyH_take (i := 5) (oi := ⟨some 48, _, _, _, _, _⟩) (v := ?_) rfl (by kernel_rfl) (by kernel_rfl) (by kernel_rfl) (fun _ _ _ h => h) (Or.inl ⟨by rfl, ?_⟩) (by assumption) ?_
      rotate_left
      · intro w hSw; (try dsimp only at hSw); go_simp; (try with_reducible rfl)
      try simp only [Act.put, List.setIfInBounds_toArray, List.set_cons_zero, List.set_cons_succ]
      refine wpAnyH_ready (rs := [6]) (by kernel_rfl) (by simp) (AllReadyH.cons (o := ⟨some 49, _, _, _, _, _⟩) rfl (fun Kc hKc => ?_) AllReadyH.nil)
      go_simp
      go_at_call 12; refine (rsame_y A1 n k1 L A2 n k2 L w5.heap.size w5.heap.size w5 _ true (by simp) HLL.out HLL.out HB4.out (Nat.le_refl _) HB5.out (Nat.le_refl _) (by omega) (by omega) (below_drew (Below.refl _ _))).mono ?_; rintro e v1 ⟨rfl, y1⟩
      clear hHeld
      refine hKc.out _ _ ?_ (fun hHeld => ?_)
      · (try dsimp only); exact K _ y1
      clear hKc Kc
      try simp only [Act.put, List.setIfInBounds_toArray, List.set_cons_zero, List.set_cons_succ]
      refine wpAnyH_take (i := 7) (oi := ⟨some 50, _, _, _, _, _⟩) (v := ?_) rfl (by kernel_rfl) (by kernel_rfl) (by kernel_rfl) (fun _ _ _ h => h) (Or.inl ⟨by rfl, ?_⟩) (by assumption) ?_
      rotate_left
      · intro w hSw; (try dsimp only at hSw); go_simp; (try with_reducible rfl)
      try simp only [Act.put, List.setIfInBounds_toArray, List.set_cons_zero, List.set_cons_succ]
      refine wpAnyH_take (i := 8) (oi := ⟨some 51, _, _, _, _, _⟩) (v := ?_) rfl (by kernel_rfl) (by kernel_rfl) (by kernel_rfl) (fun _ _ _ h => h) (Or.inl ⟨by rfl, ?_⟩) (by assumption) ?_
      rotate_left
      · intro w hSw; (try dsimp only at hSw); go_simp; (try with_reducible rfl)
      try simp only [Act.put, List.setIfInBounds_toArray, List.set_cons_zero, List.set_cons_succ]
      refine wpAnyH_take (i := 9) (oi := ⟨some 52, _, _, _, _, _⟩) (v := ?_) rfl (by kernel_rfl) (by kernel_rfl) (by kernel_rfl) (fun _ _ _ h => h) (Or.inl ⟨by rfl, ?_⟩) (by assumption) ?_
      rotate_left
      · intro w hSw; (try dsimp only at hSw); go_simp; (try with_reducible rfl)
      try simp only [Act.put, List.setIfInBounds_toArray, List.set_cons_zero, List.set_cons_succ]
      refine wpAnyH_take (i := 10) (oi := ⟨some 53, _, _, _, _, _⟩) (v := ?_) rfl (by kernel_rfl) (by kernel_rfl) (by kernel_rfl) (fun _ _ _ h => h) (Or.inl ⟨by rfl, ?_⟩) (by assumption) ?_
      rotate_left
      · intro w hSw; (try dsimp only at hSw); go_simp; (try with_reducible rfl)
      try simp only [Act.put, List.setIfInBounds_toArray, List.set_cons_zero, List.set_cons_succ]
      refine wpAnyH_take (i := 11) (oi := ⟨some 54, _, _, _, _, _⟩) (v := ?_) rfl (by kernel_rfl) (by kernel_rfl) (by kernel_rfl) (fun _ _ _ h => h) (Or.inl ⟨by rfl, ?_⟩) (by assumption) ?_
      rotate_left
      · intro w hSw; (try dsimp only at hSw); go_simp; (try with_reducible rfl)
      try simp only [Act.put, List.setIfInBounds_toArray, List.set_cons_zero, List.set_cons_succ]
      refine wpAnyH_take (i := 13) (oi := ⟨some 56, _, _, _, _, _⟩) (v := ?_) rfl (by kernel_rfl) (by kernel_rfl) (by kernel_rfl) (fun _ _ _ h => h) (Or.inl ⟨by rfl, ?_⟩) (by assumption) ?_
      rotate_left
      · intro w hSw; (try dsimp only at hSw); go_simp; (try with_reducible rfl)
      try simp only [Act.put, List.setIfInBounds_toArray, List.set_cons_zero, List.set_cons_succ]
      refine wpAnyH_take (i := 14) (oi := ⟨some 57, _, _, _, _, _⟩) (v := ?_) rfl (by kernel_rfl) (by kernel_rfl) (by kernel_rfl) (fun _ _ _ h => h) (Or.inl ⟨by rfl, ?_⟩) (by assumption) ?_
      rotate_left
      · intro w hSw; (try dsimp only at hSw); go_simp; (try with_reducible rfl)
      try simp only [Act.put, List.setIfInBounds_toArray, List.set_cons_zero, List.set_cons_succ]
      refine wpAnyH_ready (rs := [12]) (by kernel_rfl) (by simp) (AllReadyH.cons (o := ⟨some 55, _, _, _, _, _⟩) rfl (fun Kc hKc => ?_) AllReadyH.nil)
      go_simp
      go_at_call 13; refine (tsameT t Ao co Ab cb u Ao' co' Ab' cb' w.heap.size _ (x5.call y1).below.size v HV.out (HI.out.below (x5.call y1).below) (HJ.out.below (x5.call y1).below) (by omega) (by omega)).mono ?_; rintro e v2 ⟨rfl, b2⟩; have y2 := y1.trans (b2.mono y1.size)
      clear hHeld
      refine hKc.out _ _ ?_ (fun hHeld => ?_)
      · (try dsimp only); exact K _ y2
      clear hKc Kc
      try simp only [Act.put, List.setIfInBounds_toArray, List.set_cons_zero, List.set_cons_succ]
      refine wpAnyH_ready (rs := [15]) (by kernel_rfl) (by simp) (AllReadyH.cons (o := ⟨some 58, _, _, _, _, _⟩) rfl (fun Kc hKc => ?_) AllReadyH.nil)
      go_simp
      go_at_call 14; refine (rsameT_v t Ao co Ab cb u Ao' co' Ab' cb' w.heap.size _ (x5.call y2).below.size (HI.out.below (x5.call y2).below) (HJ.out.below (x5.call y2).below) (by omega) (by omega) L3.out L4.out v HV.out).mono ?_; rintro e v3 ⟨rfl, b3⟩; have y3 := y2.trans (b3.mono y2.size)
      clear hHeld
      refine hKc.out _ _ ?_ (fun hHeld => ?_)
      · (try dsimp only); exact K _ y3
      clear hKc Kc
      try simp only [Act.put, List.setIfInBounds_toArray, List.set_cons_zero, List.set_cons_succ]
      refine wpAnyH_take (i := 16) (oi := ⟨some 59, _, _, _, _, _⟩) (v := ?_) rfl (by kernel_rfl) (by kernel_rfl) (by kernel_rfl) (fun _ _ _ h => h) (Or.inl ⟨by rfl, ?_⟩) (by assumption) ?_
      rotate_left
      · intro w hSw; (try dsimp only at hSw); go_simp; (try with_reducible rfl)
      try simp only [Act.put, List.setIfInBounds_toArray, List.set_cons_zero, List.set_cons_succ]
      refine wpAnyH_take (i := 17) (oi := ⟨some 60, _, _, _, _, _⟩) (v := ?_) rfl (by kernel_rfl) (by kernel_rfl) (by kernel_rfl) (fun _ _ _ h => h) (Or.inl ⟨by rfl, ?_⟩) (by assumption) ?_
      rotate_left
      · intro w hSw; (try dsimp only at hSw); go_simp; (try with_reducible rfl)
      try simp only [Act.put, List.setIfInBounds_toArray, List.set_cons_zero, List.set_cons_succ]
      refine wpAnyH_done (by kernel_rfl) ?_ _
      have x6 := x5.call y3
      obtain ⟨v2, hv2⟩ : ∃ v2, (bits .and .i64 t.flags 2 != 0) = v2 := ⟨_, rfl⟩
      obtain ⟨v1', hv1⟩ : ∃ v1, (bits .and .i64 t.flags 1 != 0) = v1 := ⟨_, rfl⟩
      have HV2 := Go.Lib.hid hv2
      have HV1 := Go.Lib.hid hv1
      obtain ⟨fr, hfr⟩ : ∃ fr, findO t.opts kd = fr := ⟨_, rfl⟩
      have HFR := Go.Lib.hid hfr
      have e1 := IntWalk.i64_in ((t.body.length : Int) + 1) (by omega)
      have e2 := IntWalk.i64_in ((t.body.length : Int) + 1 + 1) (by omega)
      clear hfr K x5 y1 y2 y3 b2 b3 hHeld
      obtain ⟨c0, c1, c2, c3, c4, c5, c6, c7, c8, d0, d1, d2, d3, d4, d5, d6, d7, d8⟩ := x6.cells
      have x6s := x6.size
      cases v2 <;> cases v1'
      all_goals
        go_wp2_with fail
        refine (tfind t Ao co Ab cb kd w.heap.size _ x6.below.size (HI.out.os.below x6.below) HO.out).mono ?_
        rw [HFR.out]
        intro e w7 h7
        have x7 := x6.call h7.below
        have hos := HI.out.os.below x7.below
        obtain ⟨c0, c1, c2, c3, c4, c5, c6, c7, c8, d0, d1, d2, d3, d4, d5, d6, d7, d8⟩ := x7.cells
        cases fr with
        | none =>
          obtain rfl := h7.no rfl
          dsimp only
          clear h7
          go_wp2
          go_loop [18] (fun i => ∃ k : Nat, k ≤ t.opts.length ∧ i = .int .i64 k ∧ Hid ((t.opts.drop k).find? (fun o => o.kind == kd) = t.opts.find? (fun o => o.kind == kd))) (fun i => t.opts.length - (intOf i).toNat)
          case atStart => exact ⟨0, by omega, rfl, Go.Lib.hid (by simp)⟩
          case round =>
            obtain ⟨k, hk, rfl, hF⟩ := hrel
            by_cases hlt : k < t.opts.length
            · obtain ⟨ad, Ad, cd, rfl, hb, hc0, hc1, hbs, hdl, hcm, hdn⟩ := hos.at_ hlt
              have i1 : (0 : Int) ≤ (k : Int) := by omega
              have i2 : (k : Int) < (t.opts.length : Int) := by omega
              have hne : (t.opts[k].kind == kd) = false := by
                cases e : (t.opts[k].kind == kd)
                · rfl
                · have h1 := HFR.out
                  unfold findO at h1
                  rw [← hF.out, find_here t.opts k kd hlt e] at h1
                  cases h1
              have HNX : Hid ((t.opts.drop (k + 1)).find? (fun o => o.kind == kd) = t.opts.find? (fun o => o.kind == kd)) := Go.Lib.hid (by rw [← find_skip t.opts k kd hlt hne]; exact hF.out)
              generalize t.opts[k] = o at *
              clear hbs hdn
              go_wp2
              go_round
              case rel => exact ⟨k + 1, by omega, by go_num, HNX⟩
              case measure => simp [intOf]; omega
            · obtain rfl : k = t.opts.length := by omega
              go_wp2_with (go_at_call 16; refine (tsize t _ co Ab cb _ _ _ HV2.out HV1.out (by omega)).mono ?_; rintro e w9 ⟨rfl, b9⟩; dsimp only)
              go_ret
              refine ⟨ret_bool ?_, (x7.call b9).below⟩
              simp [szT]
        | some dat =>
          obtain ⟨A8, c8', rfl, hb8⟩ := h7.yes dat rfl
          dsimp only
          have HB8 := Go.Lib.hid hb8
          clear h7 hb8
          go_wp2
          go_loop [18] (fun i => ∃ k : Nat, k ≤ t.opts.length ∧ i = .int .i64 k ∧ Hid ((t.opts.drop k).find? (fun o => o.kind == kd) = t.opts.find? (fun o => o.kind == kd))) (fun i => t.opts.length - (intOf i).toNat)
          case atStart => exact ⟨0, by omega, rfl, Go.Lib.hid (by simp)⟩
          case round =>
            obtain ⟨k, hk, rfl, hF⟩ := hrel
            by_cases hlt : k < t.opts.length
            · obtain ⟨ad, Ad, cd, rfl, hb, hc0, hc1, hbs, hdl, hcm, hdn⟩ := hos.at_ hlt
              have i1 : (0 : Int) ≤ (k : Int) := by omega
              have i2 : (k : Int) < (t.opts.length : Int) := by omega
              have j0 := L3.out _ (List.getElem_mem hlt)
              by_cases hne : (t.opts[k].kind == kd) = true
              · have HD : Hid (t.opts[k].data = dat) := Go.Lib.hid (by
                  have h1 := HFR.out
                  unfold findO at h1
                  rw [← hF.out, find_here t.opts k kd hlt hne] at h1
                  simpa using h1)
                have HBD := Go.Lib.hid hbs
                generalize t.opts[k] = o at *
                clear hbs hdn
                go_wp2_with (first
                  | (go_at_call 12; refine (rsame_y A8 _ c8' dat Ad _ cd o.data w7.heap.size w.heap.size w7 _ true (by rw [HD.out]; simp) rfl rfl HB8.out (Nat.le_refl _) HBD.out x7.below.size (by have := HD.out; rw [← this]; exact j0) j0 (Below.refl _ _)).mono ?_; rintro e w8 ⟨rfl, b8⟩; obtain ⟨p0, p1, p2, p3, p4, p5, p6, p7, p8, _⟩ := (x7.call b8).cells; dsimp only)
                  | (go_at_call 16; refine (tsize t _ co Ab cb _ _ _ HV2.out HV1.out (by omega)).mono ?_; rintro e w9 ⟨rfl, b9⟩; dsimp only))
                go_ret
                refine ⟨ret_bool ?_, ((x7.call b8).call b9).below⟩
                simp [szT]
              · have hne' : (t.opts[k].kind == kd) = false := by simpa using hne
                have HNX : Hid ((t.opts.drop (k + 1)).find? (fun o => o.kind == kd) = t.opts.find? (fun o => o.kind == kd)) := Go.Lib.hid (by rw [← find_skip t.opts k kd hlt hne']; exact hF.out)
                generalize t.opts[k] = o at *
                clear hbs hdn hne
                go_wp2
                go_round
                case rel => exact ⟨k + 1, by omega, by go_num, HNX⟩
                case measure => simp [intOf]; omega
            · exfalso
              have h1 := HFR.out
              unfold findO at h1
              rw [← hF.out, List.drop_of_length_le (by omega)] at h1
              cases h1
end Go.Proofs.Ytghgemmbbedopaa
