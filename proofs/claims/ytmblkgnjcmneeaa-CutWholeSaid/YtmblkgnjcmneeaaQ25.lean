/- Lemmas, several texts in one. -/
import Derived.Test.YtmblkgnjcmneeaaQ14
import Derived.Test.YtmblkgnjcmneeaaQ07
import Derived.Test.YtmblkgnjcmneeaaQ12
/- All pieces of all pieces: they are the packet's: plain mathematics. -/
namespace Go.Proofs.Ytmblkgnjcmneeaa
open Go.RowKit
set_option linter.unusedVariables false

/-- all pieces of a packet that was cut twice: the packet alone, or pieces that make it. -/
def DoneW (room : Int) (x : Pk) (ps : List Pk) : Prop := ps = [x] ∨ ∃ R, WholeP room x (freshM R) ∧ ps = unW x (freshM R) ∧ R ≠ []
/-- .. while it is cut for the second time: k pieces of m are done. -/
def DoingW (room : Int) (x : Pk) (n m k : Nat) (ps : List Pk) : Prop :=
  (k < m ∧ (x.body = [] → k = 0 ∧ ps = []) ∧ (0 < x.body.length → ∃ R, CutOk x R (k * n) ∧ ps = unL x R true)) ∨ (k = m ∧ DoneW room x ps)
theorem piece_whole (x : Pk) (h0 : x.off = 0) (hf : x.mf = false) (n m k : Nat) : pieceAt x n m k = pieceW x ⟨((k * n : Nat) : Int), (x.body.drop (k * n)).take n⟩ (decide (k + 1 < m)) := by
  unfold pieceAt pieceW
  rw [h0, hf, Int.zero_add, Bool.false_or]
theorem piece_self (x : Pk) (h0 : x.off = 0) (hf : x.mf = false) : pieceW x ⟨0, x.body⟩ false = x := by
  obtain ⟨a1, a2, a3, a4, a5, a6, a7, a8, a9, a10, a11⟩ := x
  have h0 : a5 = 0 := h0
  have hf : a4 = false := hf
  subst h0 hf
  rfl
theorem doing_start (room : Int) (x : Pk) {n m : Nat} (hm : 0 < m) : DoingW room x n m 0 [] :=
  .inl ⟨hm, fun _ => ⟨rfl, rfl⟩, fun h => ⟨[], by rw [Nat.zero_mul]; exact cut_none x h, rfl⟩⟩
theorem subR_ne (r : Rn) (n m : Nat) (h : 0 < m) : subR r n m ≠ [] := fun e => by have := subR_len r n m; rw [e] at this; simp at this; omega
theorem DoingW.step {room : Int} {x : Pk} {mtu narrow : Int} {l l2 : List Pk} {n n2 k : Nat} {ps : List Pk} (h : CutR x mtu l n) (h0 : x.off = 0) (hf : x.mf = false) (hs : (x.body.length : Int) ≤ room) (hk : k < l.length) (D : DoingW room x n l.length k ps) (h2 : CutR l[k] narrow l2 n2) : DoingW room x n l.length (k + 1) (ps ++ l2) := by
  rcases D with ⟨_, d1, d2⟩ | ⟨hkm, _⟩
  rotate_left
  · omega
  have hg := h.get hk
  rw [piece_whole x h0 hf] at hg
  obtain ⟨c1, c2, c3, c4⟩ := h.bytes hk
  have hmul : (k + 1) * n = k * n + n := Nat.succ_mul k n
  have hp2 := h2.pos
  by_cases hb : x.body = []
  · obtain ⟨hk0, hps⟩ := d1 hb
    subst hk0 hps
    have hb0 : x.body.length = 0 := by rw [hb]; rfl
    have hl1 : l.length = 1 := by rcases c4 with c4 | c4; omega; exact c4
    have hx : l[0] = x := by
      rw [hg, hl1]
      unfold pieceW
      simp [hb]
      cases x; simp_all
    have hl2 : l2 = [x] := by
      have he := h2.eq
      rw [hx] at he
      rw [he, cutL_le h2.n0 (by omega)]
    exact .inr ⟨by omega, .inl (by rw [hl2]; rfl)⟩
  · have hpos : 0 < x.body.length := List.length_pos_iff.2 hb
    obtain ⟨R, hR, hps⟩ := d2 hpos
    have hlt := hR.lt
    have n0 := h.n0
    have hdl : ((x.body.drop (k * n)).take n).length = min n (x.body.length - k * n) := by rw [List.length_take, List.length_drop]
    rw [hg] at h2
    have hsub := h2.sub
    have hok := h2.subOk (by rw [hdl]; omega)
    obtain ⟨q1, q2, q3⟩ := hok
    have ha8 := hR.a8
    have h8 := h2.sub8 (by show ((k * n : Nat) : Int) % 8 = 0; omega)
    have hQ := subR_ne ⟨((k * n : Nat) : Int), (x.body.drop (k * n)).take n⟩ n2 l2.length hp2
    by_cases hlast : k + 1 < l.length
    · rw [decide_eq_true hlast] at hsub
      have hn : n < x.body.length := by rcases c4 with c4 | c4; exact c4; omega
      have hn8 := (h.cut hn).1
      have c2' := c2 hlast
      have hd : ((x.body.drop (k * n)).take n).length = n := by rw [hdl]; omega
      refine .inl ⟨hlast, fun e => absurd e hb, fun _ => ⟨R ++ _, hR.more (Q := subR ⟨((k * n : Nat) : Int), (x.body.drop (k * n)).take n⟩ n2 l2.length) (to_ := (k + 1) * n) (by omega) (by omega) c2' q1 (by rw [q2]; show ((x.body.drop (k * n)).take n).length = _; omega) ?_ ?_, ?_⟩⟩
      · rw [q3]
        show (x.body.drop (k * n)).take n = _
        rw [List.drop_take]
        congr 1
        omega
      · intro r hr
        obtain ⟨j, hj⟩ := List.getElem?_of_mem hr
        exact ⟨h8.1 r hr, h8.2 j r hj (.inr (by show ((x.body.drop (k * n)).take n).length % 8 = 0; omega))⟩
      · rw [hps, ← unL_append x true _ hQ R, ← hsub]
    · rw [decide_eq_false hlast] at hsub
      have hkm : k + 1 = l.length := by omega
      have hfull : (x.body.drop (k * n)).take n = x.body.drop (k * n) := List.take_of_length_le (by rw [List.length_drop]; have := c3 hkm; omega)
      refine .inr ⟨hkm, ?_⟩
      have hall : ps ++ l2 = unL x (R ++ subR ⟨((k * n : Nat) : Int), (x.body.drop (k * n)).take n⟩ n2 l2.length) false := by
        rw [hps, ← unL_append x false _ hQ R, ← hsub]
      by_cases two : 2 ≤ (R ++ subR ⟨((k * n : Nat) : Int), (x.body.drop (k * n)).take n⟩ n2 l2.length).length
      · refine .inr ⟨_, hR.wholeQ h.may h0 hf hs q1 (by rw [q3]; exact hfull) h8.1 (fun j s hj hl => h8.2 j s hj (.inl (by rw [subR_len] at hl; exact hl))) two, by rw [hall, unL_fresh], fun e => ?_⟩
        rw [e] at two; simp at two
      · rw [List.length_append, subR_len] at two
        have hR0 : R = [] := List.eq_nil_of_length_eq_zero (by omega)
        have hl1 : l2.length = 1 := by omega
        subst hR0
        have hk0 : k * n = 0 := by have := hR.held; simpa [heldR] using this.symm
        left
        rw [hall, List.nil_append, hl1]
        rw [hl1] at q3
        have hq : subR ⟨((k * n : Nat) : Int), (x.body.drop (k * n)).take n⟩ n2 1 = [⟨0, x.body⟩] := by
          have e1 : subR ⟨((k * n : Nat) : Int), (x.body.drop (k * n)).take n⟩ n2 1 = [⟨((k * n : Nat) : Int), ((x.body.drop (k * n)).take n).take n2⟩] := by rw [subR_succ]; rfl
          rw [e1] at q3 ⊢
          have e2 : ((x.body.drop (k * n)).take n).take n2 = (x.body.drop (k * n)).take n := by simpa [dataR] using q3
          rw [e2, hfull, hk0]
          rfl
        rw [hq]
        show [pieceW x ⟨0, x.body⟩ false] = [x]
        rw [piece_self x h0 hf]
end Go.Proofs.Ytmblkgnjcmneeaa

/- Pieces that are cut once more, all in one row. -/
namespace Go.Proofs.Ytmblkgnjcmneeaa
open Go.ChangeShapes Go.WideShapes Go.ChangeAt Go.RowKit
set_option linter.unusedVariables false
set_option linter.unusedSimpArgs false

/-- all pieces so far: their row, and the blocks that their parts lie in. -/
structure AllI (w4 : World) (wr : World) (A : Option Addr) (c : Nat) (es : List Ep) (U : Nat → Prop) : Prop where
  below : Below w4.heap.size w4 wr
  row : OwnK wr w4.heap.size A c es
  els : ∀ e ∈ es, PkAt wr U e.p e.Ao e.co e.Ab e.cb
  old : ∀ b, b < w4.heap.size → U b
  ult : ∀ b, U b → b < wr.heap.size
  une : ∀ g, blk A = some g → ¬ U g
section
variable {w4 wr wx w5 w10 : World} {A A' : Option Addr} {c c' : Nat} {es es2 : List Ep} {U : Nat → Prop}
theorem AllI.start (w4 : World) : AllI w4 w4 none 0 [] (fun b => b < w4.heap.size) :=
  ⟨Below.refl _ _, OwnK.none_ _ _, (fun e he => by cases he), fun b h => h, fun b h => h, fun g h => by cases h⟩
theorem AllI.step (h : AllI w4 wr A c es U) (y : Below wr.heap.size wr wx) : AllI w4 wx A c es U :=
  ⟨h.below.trans (y.mono h.below.size), h.row.keep y, fun e he => (h.els e he).at y, h.old, fun b hb => Nat.lt_of_lt_of_le (h.ult b hb) y.size, h.une⟩
theorem OwnK.rdAll {b : Nat} (h : OwnK wr b A c es) : RdC wr A (es.flatMap Ep.L) := by
  have := h.rdTake es.length
  rwa [List.take_length] at this
/-- the pieces of a piece, behind the others. -/
theorem AllI.next (h : AllI w4 wr A c es U) (y5 : Below wr.heap.size wr w5) (hels : ∀ e ∈ es2, PkAt w5 (growV U wr w5) e.p e.Ao e.co e.Ab e.cb) (hrow : w10.ownsRow w4.heap.size 25 11 (.slice A' (es.length + es2.length) c') (es.length + es2.length) (es.flatMap Ep.L ++ es2.flatMap Ep.L)) (hg : w5.grownBy w10 (blk A)) (hat : blk A' = blk A ∨ blk A' = some w5.heap.size) : AllI w4 w10 A' c' (es ++ es2) (growV U wr w5) := by
  have hge := h.row.block_ge
  have s5 := y5.size
  have b4 := h.below.size
  have hU : ∀ b, growV U wr w5 b → b < w5.heap.size := grow_lt h.ult y5.size
  have hA : ∀ g, blk A = some g → ¬ growV U wr w5 g := fun g e hx => hx.elim (h.une g e) (fun k => by have := (hge g e).2; omega)
  have hkeep : ∀ b, growV U wr w5 b → w10.heap[b]? = w5.heap[b]? := fun b hb => hg.block b (hU b hb) (fun e => hA b e.symm hb)
  have y10 : Below w4.heap.size w5 w10 := grown_below hg (fun g e => (hge g e).1) (by omega)
  refine ⟨(h.below.trans (y5.mono b4)).trans y10, ?_, ?_, fun b hb => .inl (h.old b hb), fun b hb => Nat.lt_of_lt_of_le (hU b hb) hg.size, ?_⟩
  · unfold OwnK
    rw [List.length_append, List.flatMap_append]
    exact hrow
  · intro e he
    rcases List.mem_append.1 he with he | he
    · exact (((h.els e he).at y5).more (fun b hb => .inl hb) hU).keepB2 hkeep hg.size
    · exact (hels e he).keepB2 hkeep hg.size
  · intro g e hx
    rcases hat with ha | ha
    · exact hA g (ha ▸ e) hx
    · rw [ha] at e; injection e with e; have := hU g hx; omega
end
theorem DoneW.st {room : Int} {x : Pk} {es : List Ep} (r1 : 1 ≤ room) (r2 : room ≤ 1048576) (hm : May x) (h0 : x.off = 0) (hf : x.mf = false) (h : DoneW room x (es.map Ep.p)) : StW room x ⟨room, 10, 0, []⟩ es := by
  rcases h with h | ⟨R, W, hps, hR⟩
  · exact ⟨right_new r1 r2 (by omega) (by omega), .inr (.inl ⟨h, rfl, hm, h0, hf⟩)⟩
  · exact StW.fresh r1 r2 W hps hR
end Go.Proofs.Ytmblkgnjcmneeaa

/- The contract of package reasm's clashes: a closure, handed to slices.ContainsFunc. -/
namespace Go.Proofs.Ytmblkgnjcmneeaa
open Go.ChangeShapes Go.WideShapes Go.ChangeAt Go.RowKit
set_option linter.unusedVariables false
set_option linter.unusedSimpArgs false

/-- a run that clashes with a piece from off to stop, the last one or not. -/
def clR (r : Rn) (off stop : Int) (mf : Bool) : Bool := (decide (r.off < stop) && decide (off < stopR r)) || (!mf && decide (stop < stopR r))
set_option maxRecDepth 100000 in
set_option maxHeartbeats 8000000 in
theorem cclash1 (r : Rn) (Ad : Option Addr) (cd : Nat) (ge gx : Nat) (off stop : Int) (mf : Bool) (q : Bool) (hq : clR r off stop mf = q) (w : World) (he : w.cell? ⟨ge, 0, none⟩ = some (.int .i64 stop)) (h4 : w.cell? ⟨gx, 4, none⟩ = some (.int .i64 off)) (h3 : w.cell? ⟨gx, 3, none⟩ = some (.bool mf))
    (s0 : -9223372036854775808 ≤ stopR r) (s1 : stopR r ≤ 9223372036854775807) :
    Calls Try.prog 55 #[rnV r Ad cd, .pointer (some ⟨ge, 0, none⟩), .pointer (some ⟨gx, 0, none⟩)] w fun e w' => e = .returned (.bool q) ∧ Below w.heap.size w w' := by
  have HQ := Go.Lib.hid hq
  have b0 : Below w.heap.size w (w.alloc (oRn r Ad cd)) := (Below.refl _ _).alloc (Nat.le_refl _) _
  have lge := World.block_lt_of_cell? w _ he
  have lgx := World.block_lt_of_cell? w _ h4
  have HR := Go.Lib.hid (BoRn.made (w := w) (r := r) (Ad := Ad) (cd := cd))
  have sR : w.heap.size < (w.alloc (oRn r Ad cd)).heap.size := by simp
  have HE := Go.Lib.hid ((b0.cell (p := ⟨ge, 0, none⟩) lge).trans he)
  have H4 := Go.Lib.hid ((b0.cell (p := ⟨gx, 4, none⟩) lgx).trans h4)
  have H3 := Go.Lib.hid ((b0.cell (p := ⟨gx, 3, none⟩) lgx).trans h3)
  clear he h4 h3 hq
  go_enter Try.func55, Try.ntmps55
  go_upto_region 1 with fail
  generalize w.alloc (oRn r Ad cd) = W at *
  have lge : ge < W.heap.size := Nat.lt_trans lge sR
  have lgx : gx < W.heap.size := Nat.lt_trans lgx sR
  generalize hst : stopR r = st at *
  have HST := Go.Lib.hid hst
  clear hst
  by_cases h1 : r.off < stop
  · by_cases h2 : off < st
    · 
      try simp only [Act.put, List.setIfInBounds_toArray, List.set_cons_zero, List.set_cons_succ]
      refine wp_region_held_drew (S := fun Y => Below W.heap.size W Y) (by kernel_rfl) ?_ (fun hHeld => ?_)
      · exact below_drew (Below.refl _ _)
      refine wpAnyH_take (i := 0) (oi := ⟨some 6, _, _, _, _, _⟩) (v := ?_) rfl (by kernel_rfl) (by kernel_rfl) (by kernel_rfl) (fun _ _ _ h => h) (Or.inl ⟨by rfl, ?_⟩) (by assumption) ?_
      rotate_left
      · intro w hSw; (try dsimp only at hSw); go_simp; (try with_reducible rfl)
      try simp only [Act.put, List.setIfInBounds_toArray, List.set_cons_zero, List.set_cons_succ]
      refine wpAnyH_take (i := 1) (oi := ⟨some 7, _, _, _, _, _⟩) (v := ?_) rfl (by kernel_rfl) (by kernel_rfl) (by kernel_rfl) (fun _ _ _ h => h) (Or.inl ⟨by rfl, ?_⟩) (by assumption) ?_
      rotate_left
      · intro w hSw; obtain ⟨d0, d1⟩ := (HR.out.keep hSw sR).cells; (try dsimp only at hSw); go_simp; (try with_reducible rfl)
      try simp only [Act.put, List.setIfInBounds_toArray, List.set_cons_zero, List.set_cons_succ]
      refine wpAnyH_take (i := 2) (oi := ⟨some 8, _, _, _, _, _⟩) (v := ?_) rfl (by kernel_rfl) (by kernel_rfl) (by kernel_rfl) (fun _ _ _ h => h) (Or.inl ⟨by rfl, ?_⟩) (by assumption) ?_
      rotate_left
      · intro w hSw; have ce := (hSw.cell (p := ⟨ge, 0, none⟩) lge).trans HE.out; (try dsimp only at hSw); go_simp; (try with_reducible rfl)
      try simp only [Act.put, List.setIfInBounds_toArray, List.set_cons_zero, List.set_cons_succ]
      refine wpAnyH_take (i := 3) (oi := ⟨some 9, _, _, _, _, _⟩) (v := ?_) rfl (by kernel_rfl) (by kernel_rfl) (by kernel_rfl) (fun _ _ _ h => h) (Or.inl ⟨by rfl, ?_⟩) (by assumption) ?_
      rotate_left
      · intro w hSw; (try dsimp only at hSw); go_simp; (try with_reducible rfl)
      try simp only [Act.put, List.setIfInBounds_toArray, List.set_cons_zero, List.set_cons_succ]
      refine wpAnyH_take (i := 4) (oi := ⟨some 10, _, _, _, _, _⟩) (v := ?_) rfl (by kernel_rfl) (by kernel_rfl) (by kernel_rfl) (fun _ _ _ h => h) (Or.inl ⟨by rfl, ?_⟩) (by assumption) ?_
      rotate_left
      · intro w hSw; (try dsimp only at hSw); go_simp; (try with_reducible rfl)
      try simp only [Act.put, List.setIfInBounds_toArray, List.set_cons_zero, List.set_cons_succ]
      refine wpAnyH_take (i := 5) (oi := ⟨some 11, _, _, _, _, _⟩) (v := ?_) rfl (by kernel_rfl) (by kernel_rfl) (by kernel_rfl) (fun _ _ _ h => h) (Or.inl ⟨by rfl, ?_⟩) (by assumption) ?_
      rotate_left
      · intro w hSw; (try dsimp only at hSw); go_simp; (try with_reducible rfl)
      try simp only [Act.put, List.setIfInBounds_toArray, List.set_cons_zero, List.set_cons_succ]
      refine wpAnyH_take (i := 6) (oi := ⟨some 12, _, _, _, _, _⟩) (v := ?_) rfl (by kernel_rfl) (by kernel_rfl) (by kernel_rfl) (fun _ _ _ h => h) (Or.inl ⟨by rfl, ?_⟩) (by assumption) ?_
      rotate_left
      · intro w hSw; have c4 := (hSw.cell (p := ⟨gx, 4, none⟩) lgx).trans H4.out; (try dsimp only at hSw); go_simp; (try with_reducible rfl)
      try simp only [Act.put, List.setIfInBounds_toArray, List.set_cons_zero, List.set_cons_succ]
      refine wpAnyH_take (i := 7) (oi := ⟨some 13, _, _, _, _, _⟩) (v := ?_) rfl (by kernel_rfl) (by kernel_rfl) (by kernel_rfl) (fun _ _ _ h => h) (Or.inl ⟨by rfl, ?_⟩) (by assumption) ?_
      rotate_left
      · intro w hSw; obtain ⟨d0, d1⟩ := (HR.out.keep hSw sR).cells; (try dsimp only at hSw); go_simp; (try with_reducible rfl)
      try simp only [Act.put, List.setIfInBounds_toArray, List.set_cons_zero, List.set_cons_succ]
      refine wpAnyH_ready (rs := [8]) (by kernel_rfl) (by simp) (AllReadyH.cons (o := ⟨some 14, _, _, _, _, _⟩) rfl (fun Kc hKc => ?_) AllReadyH.nil)
      go_simp
      go_at_call 56; refine (cendOf r Ad cd _ st HST.out (by omega) (by omega)).mono ?_; rintro e w' ⟨rfl, hcall⟩; dsimp only
      refine hKc.out _ _ (hHeld.trans (hcall.mono hHeld.size)) (fun hHeld => ?_)
      clear hKc Kc
      try simp only [Act.put, List.setIfInBounds_toArray, List.set_cons_zero, List.set_cons_succ]
      refine wpAnyH_take (i := 9) (oi := ⟨some 15, _, _, _, _, _⟩) (v := ?_) rfl (by kernel_rfl) (by kernel_rfl) (by kernel_rfl) (fun _ _ _ h => h) (Or.inl ⟨by rfl, ?_⟩) (by assumption) ?_
      rotate_left
      · intro w hSw; (try dsimp only at hSw); go_simp; (try with_reducible rfl)
      try simp only [Act.put, List.setIfInBounds_toArray, List.set_cons_zero, List.set_cons_succ]
      refine wpAnyH_take (i := 10) (oi := ⟨some 16, _, _, _, _, _⟩) (v := ?_) rfl (by kernel_rfl) (by kernel_rfl) (by kernel_rfl) (fun _ _ _ h => h) (Or.inl ⟨by rfl, ?_⟩) (by assumption) ?_
      rotate_left
      · intro w hSw; (try dsimp only at hSw); go_simp; (try with_reducible rfl)
      try simp only [Act.put, List.setIfInBounds_toArray, List.set_cons_zero, List.set_cons_succ]
      refine wpAnyH_take (i := 11) (oi := ⟨some 5, _, _, _, _, _⟩) (v := ?_) rfl (by kernel_rfl) (by kernel_rfl) (by kernel_rfl) (fun _ _ _ h => h) (Or.inl ⟨by rfl, ?_⟩) (by assumption) ?_
      rotate_left
      · intro w hSw; (try dsimp only at hSw); go_simp; (try with_reducible rfl)
      try simp only [Act.put, List.setIfInBounds_toArray, List.set_cons_zero, List.set_cons_succ]
      refine wpAnyH_done (by kernel_rfl) ?_ _
      have hW := hHeld
      clear hHeld
      go_upto_region 2 with fail
      generalize hw1 : w' = w1 at *
      clear hw1
      try simp only [Act.put, List.setIfInBounds_toArray, List.set_cons_zero, List.set_cons_succ]
      refine wp_region_held_drew (S := fun Y => Below w1.heap.size w1 Y) (by kernel_rfl) ?_ (fun hHeld => ?_)
      · exact below_drew (Below.refl _ _)
      refine wpAnyH_take (i := 0) (oi := ⟨some 17, _, _, _, _, _⟩) (v := ?_) rfl (by kernel_rfl) (by kernel_rfl) (by kernel_rfl) (fun _ _ _ h => h) (Or.inl ⟨by rfl, ?_⟩) (by assumption) ?_
      rotate_left
      · intro w hSw; (try dsimp only at hSw); go_simp; (try with_reducible rfl)
      try simp only [Act.put, List.setIfInBounds_toArray, List.set_cons_zero, List.set_cons_succ]
      refine wpAnyH_take (i := 1) (oi := ⟨some 18, _, _, _, _, _⟩) (v := ?_) rfl (by kernel_rfl) (by kernel_rfl) (by kernel_rfl) (fun _ _ _ h => h) (Or.inl ⟨by rfl, ?_⟩) (by assumption) ?_
      rotate_left
      · intro w hSw; (try dsimp only at hSw); go_simp; (try with_reducible rfl)
      try simp only [Act.put, List.setIfInBounds_toArray, List.set_cons_zero, List.set_cons_succ]
      refine wpAnyH_take (i := 2) (oi := ⟨some 19, _, _, _, _, _⟩) (v := undef) rfl (by kernel_rfl) (by kernel_rfl) (by kernel_rfl) (fun _ _ _ h => h) (Or.inr ⟨by rfl, rfl⟩) (by assumption) ?_
      try simp only [Act.put, List.setIfInBounds_toArray, List.set_cons_zero, List.set_cons_succ]
      refine wpAnyH_take (i := 3) (oi := ⟨some 20, _, _, _, _, _⟩) (v := undef) rfl (by kernel_rfl) (by kernel_rfl) (by kernel_rfl) (fun _ _ _ h => h) (Or.inr ⟨by rfl, rfl⟩) (by assumption) ?_
      try simp only [Act.put, List.setIfInBounds_toArray, List.set_cons_zero, List.set_cons_succ]
      refine wpAnyH_take (i := 4) (oi := ⟨some 21, _, _, _, _, _⟩) (v := undef) rfl (by kernel_rfl) (by kernel_rfl) (by kernel_rfl) (fun _ _ _ h => h) (Or.inr ⟨by rfl, rfl⟩) (by assumption) ?_
      try simp only [Act.put, List.setIfInBounds_toArray, List.set_cons_zero, List.set_cons_succ]
      refine wpAnyH_take (i := 5) (oi := ⟨some 22, _, _, _, _, _⟩) (v := undef) rfl (by kernel_rfl) (by kernel_rfl) (by kernel_rfl) (fun _ _ _ h => h) (Or.inr ⟨by rfl, rfl⟩) (by assumption) ?_
      try simp only [Act.put, List.setIfInBounds_toArray, List.set_cons_zero, List.set_cons_succ]
      refine wpAnyH_take (i := 6) (oi := ⟨some 23, _, _, _, _, _⟩) (v := undef) rfl (by kernel_rfl) (by kernel_rfl) (by kernel_rfl) (fun _ _ _ h => h) (Or.inr ⟨by rfl, rfl⟩) (by assumption) ?_
      try simp only [Act.put, List.setIfInBounds_toArray, List.set_cons_zero, List.set_cons_succ]
      refine wpAnyH_take (i := 7) (oi := ⟨some 24, _, _, _, _, _⟩) (v := undef) rfl (by kernel_rfl) (by kernel_rfl) (by kernel_rfl) (fun _ _ _ h => h) (Or.inr ⟨by rfl, rfl⟩) (by assumption) ?_
      try simp only [Act.put, List.setIfInBounds_toArray, List.set_cons_zero, List.set_cons_succ]
      refine wpAnyH_take (i := 8) (oi := ⟨some 25, _, _, _, _, _⟩) (v := undef) rfl (by kernel_rfl) (by kernel_rfl) (by kernel_rfl) (fun _ _ _ h => h) (Or.inr ⟨by rfl, rfl⟩) (by assumption) ?_
      try simp only [Act.put, List.setIfInBounds_toArray, List.set_cons_zero, List.set_cons_succ]
      refine wpAnyH_take (i := 9) (oi := ⟨some 26, _, _, _, _, _⟩) (v := undef) rfl (by kernel_rfl) (by kernel_rfl) (by kernel_rfl) (fun _ _ _ h => h) (Or.inr ⟨by rfl, rfl⟩) (by assumption) ?_
      try simp only [Act.put, List.setIfInBounds_toArray, List.set_cons_zero, List.set_cons_succ]
      refine wpAnyH_take (i := 10) (oi := ⟨some 27, _, _, _, _, _⟩) (v := undef) rfl (by kernel_rfl) (by kernel_rfl) (by kernel_rfl) (fun _ _ _ h => h) (Or.inr ⟨by rfl, rfl⟩) (by assumption) ?_
      try simp only [Act.put, List.setIfInBounds_toArray, List.set_cons_zero, List.set_cons_succ]
      refine wpAnyH_take (i := 11) (oi := ⟨some 28, _, _, _, _, _⟩) (v := ?_) rfl (by kernel_rfl) (by kernel_rfl) (by kernel_rfl) (fun _ _ _ h => h) (Or.inl ⟨by rfl, ?_⟩) (by assumption) ?_
      rotate_left
      · intro w hSw; (try dsimp only at hSw); go_simp; (try with_reducible rfl)
      try simp only [Act.put, List.setIfInBounds_toArray, List.set_cons_zero, List.set_cons_succ]
      refine wpAnyH_take (i := 12) (oi := ⟨some 4, _, _, _, _, _⟩) (v := ?_) rfl (by kernel_rfl) (by kernel_rfl) (by kernel_rfl) (fun _ _ _ h => h) (Or.inl ⟨by rfl, ?_⟩) (by assumption) ?_
      rotate_left
      · intro w hSw; (try dsimp only at hSw); go_simp; (try with_reducible rfl)
      try simp only [Act.put, List.setIfInBounds_toArray, List.set_cons_zero, List.set_cons_succ]
      refine wpAnyH_done (by kernel_rfl) ?_ _
      have yF := hW.trans (hHeld.mono hW.size)
      clear hHeld
      go_wp2
      go_ret
      exact ⟨ret_bool (by rw [← HQ.out]; unfold clR; rw [HST.out]; first | (simp [*]; done) | (simp [*]; omega)), b0.trans (yF.mono b0.size)⟩
    ·
      try simp only [Act.put, List.setIfInBounds_toArray, List.set_cons_zero, List.set_cons_succ]
      refine wp_region_held_drew (S := fun Y => Below W.heap.size W Y) (by kernel_rfl) ?_ (fun hHeld => ?_)
      · exact below_drew (Below.refl _ _)
      refine wpAnyH_take (i := 0) (oi := ⟨some 6, _, _, _, _, _⟩) (v := ?_) rfl (by kernel_rfl) (by kernel_rfl) (by kernel_rfl) (fun _ _ _ h => h) (Or.inl ⟨by rfl, ?_⟩) (by assumption) ?_
      rotate_left
      · intro w hSw; (try dsimp only at hSw); go_simp; (try with_reducible rfl)
      try simp only [Act.put, List.setIfInBounds_toArray, List.set_cons_zero, List.set_cons_succ]
      refine wpAnyH_take (i := 1) (oi := ⟨some 7, _, _, _, _, _⟩) (v := ?_) rfl (by kernel_rfl) (by kernel_rfl) (by kernel_rfl) (fun _ _ _ h => h) (Or.inl ⟨by rfl, ?_⟩) (by assumption) ?_
      rotate_left
      · intro w hSw; obtain ⟨d0, d1⟩ := (HR.out.keep hSw sR).cells; (try dsimp only at hSw); go_simp; (try with_reducible rfl)
      try simp only [Act.put, List.setIfInBounds_toArray, List.set_cons_zero, List.set_cons_succ]
      refine wpAnyH_take (i := 2) (oi := ⟨some 8, _, _, _, _, _⟩) (v := ?_) rfl (by kernel_rfl) (by kernel_rfl) (by kernel_rfl) (fun _ _ _ h => h) (Or.inl ⟨by rfl, ?_⟩) (by assumption) ?_
      rotate_left
      · intro w hSw; have ce := (hSw.cell (p := ⟨ge, 0, none⟩) lge).trans HE.out; (try dsimp only at hSw); go_simp; (try with_reducible rfl)
      try simp only [Act.put, List.setIfInBounds_toArray, List.set_cons_zero, List.set_cons_succ]
      refine wpAnyH_take (i := 3) (oi := ⟨some 9, _, _, _, _, _⟩) (v := ?_) rfl (by kernel_rfl) (by kernel_rfl) (by kernel_rfl) (fun _ _ _ h => h) (Or.inl ⟨by rfl, ?_⟩) (by assumption) ?_
      rotate_left
      · intro w hSw; (try dsimp only at hSw); go_simp; (try with_reducible rfl)
      try simp only [Act.put, List.setIfInBounds_toArray, List.set_cons_zero, List.set_cons_succ]
      refine wpAnyH_take (i := 4) (oi := ⟨some 10, _, _, _, _, _⟩) (v := ?_) rfl (by kernel_rfl) (by kernel_rfl) (by kernel_rfl) (fun _ _ _ h => h) (Or.inl ⟨by rfl, ?_⟩) (by assumption) ?_
      rotate_left
      · intro w hSw; (try dsimp only at hSw); go_simp; (try with_reducible rfl)
      try simp only [Act.put, List.setIfInBounds_toArray, List.set_cons_zero, List.set_cons_succ]
      refine wpAnyH_take (i := 5) (oi := ⟨some 11, _, _, _, _, _⟩) (v := ?_) rfl (by kernel_rfl) (by kernel_rfl) (by kernel_rfl) (fun _ _ _ h => h) (Or.inl ⟨by rfl, ?_⟩) (by assumption) ?_
      rotate_left
      · intro w hSw; (try dsimp only at hSw); go_simp; (try with_reducible rfl)
      try simp only [Act.put, List.setIfInBounds_toArray, List.set_cons_zero, List.set_cons_succ]
      refine wpAnyH_take (i := 6) (oi := ⟨some 12, _, _, _, _, _⟩) (v := ?_) rfl (by kernel_rfl) (by kernel_rfl) (by kernel_rfl) (fun _ _ _ h => h) (Or.inl ⟨by rfl, ?_⟩) (by assumption) ?_
      rotate_left
      · intro w hSw; have c4 := (hSw.cell (p := ⟨gx, 4, none⟩) lgx).trans H4.out; (try dsimp only at hSw); go_simp; (try with_reducible rfl)
      try simp only [Act.put, List.setIfInBounds_toArray, List.set_cons_zero, List.set_cons_succ]
      refine wpAnyH_take (i := 7) (oi := ⟨some 13, _, _, _, _, _⟩) (v := ?_) rfl (by kernel_rfl) (by kernel_rfl) (by kernel_rfl) (fun _ _ _ h => h) (Or.inl ⟨by rfl, ?_⟩) (by assumption) ?_
      rotate_left
      · intro w hSw; obtain ⟨d0, d1⟩ := (HR.out.keep hSw sR).cells; (try dsimp only at hSw); go_simp; (try with_reducible rfl)
      try simp only [Act.put, List.setIfInBounds_toArray, List.set_cons_zero, List.set_cons_succ]
      refine wpAnyH_ready (rs := [8]) (by kernel_rfl) (by simp) (AllReadyH.cons (o := ⟨some 14, _, _, _, _, _⟩) rfl (fun Kc hKc => ?_) AllReadyH.nil)
      go_simp
      go_at_call 56; refine (cendOf r Ad cd _ st HST.out (by omega) (by omega)).mono ?_; rintro e w' ⟨rfl, hcall⟩; dsimp only
      refine hKc.out _ _ (hHeld.trans (hcall.mono hHeld.size)) (fun hHeld => ?_)
      clear hKc Kc
      try simp only [Act.put, List.setIfInBounds_toArray, List.set_cons_zero, List.set_cons_succ]
      refine wpAnyH_take (i := 9) (oi := ⟨some 15, _, _, _, _, _⟩) (v := ?_) rfl (by kernel_rfl) (by kernel_rfl) (by kernel_rfl) (fun _ _ _ h => h) (Or.inl ⟨by rfl, ?_⟩) (by assumption) ?_
      rotate_left
      · intro w hSw; (try dsimp only at hSw); go_simp; (try with_reducible rfl)
      try simp only [Act.put, List.setIfInBounds_toArray, List.set_cons_zero, List.set_cons_succ]
      refine wpAnyH_take (i := 10) (oi := ⟨some 16, _, _, _, _, _⟩) (v := ?_) rfl (by kernel_rfl) (by kernel_rfl) (by kernel_rfl) (fun _ _ _ h => h) (Or.inl ⟨by rfl, ?_⟩) (by assumption) ?_
      rotate_left
      · intro w hSw; (try dsimp only at hSw); go_simp; (try with_reducible rfl)
      try simp only [Act.put, List.setIfInBounds_toArray, List.set_cons_zero, List.set_cons_succ]
      refine wpAnyH_take (i := 11) (oi := ⟨some 5, _, _, _, _, _⟩) (v := ?_) rfl (by kernel_rfl) (by kernel_rfl) (by kernel_rfl) (fun _ _ _ h => h) (Or.inl ⟨by rfl, ?_⟩) (by assumption) ?_
      rotate_left
      · intro w hSw; (try dsimp only at hSw); go_simp; (try with_reducible rfl)
      try simp only [Act.put, List.setIfInBounds_toArray, List.set_cons_zero, List.set_cons_succ]
      refine wpAnyH_done (by kernel_rfl) ?_ _
      have hW := hHeld
      clear hHeld
      go_upto_region 2 with fail
      generalize hw1 : w' = w1 at *
      clear hw1
      cases mf
      ·
        try simp only [Act.put, List.setIfInBounds_toArray, List.set_cons_zero, List.set_cons_succ]
        refine wp_region_held_drew (S := fun Y => Below w1.heap.size w1 Y) (by kernel_rfl) ?_ (fun hHeld => ?_)
        · exact below_drew (Below.refl _ _)
        refine wpAnyH_take (i := 0) (oi := ⟨some 17, _, _, _, _, _⟩) (v := ?_) rfl (by kernel_rfl) (by kernel_rfl) (by kernel_rfl) (fun _ _ _ h => h) (Or.inl ⟨by rfl, ?_⟩) (by assumption) ?_
        rotate_left
        · intro w hSw; (try dsimp only at hSw); go_simp; (try with_reducible rfl)
        try simp only [Act.put, List.setIfInBounds_toArray, List.set_cons_zero, List.set_cons_succ]
        refine wpAnyH_take (i := 1) (oi := ⟨some 18, _, _, _, _, _⟩) (v := ?_) rfl (by kernel_rfl) (by kernel_rfl) (by kernel_rfl) (fun _ _ _ h => h) (Or.inl ⟨by rfl, ?_⟩) (by assumption) ?_
        rotate_left
        · intro w hSw; (try dsimp only at hSw); go_simp; (try with_reducible rfl)
        try simp only [Act.put, List.setIfInBounds_toArray, List.set_cons_zero, List.set_cons_succ]
        refine wpAnyH_take (i := 2) (oi := ⟨some 19, _, _, _, _, _⟩) (v := ?_) rfl (by kernel_rfl) (by kernel_rfl) (by kernel_rfl) (fun _ _ _ h => h) (Or.inl ⟨by rfl, ?_⟩) (by assumption) ?_
        rotate_left
        · intro w hSw; (try dsimp only at hSw); go_simp; (try with_reducible rfl)
        try simp only [Act.put, List.setIfInBounds_toArray, List.set_cons_zero, List.set_cons_succ]
        refine wpAnyH_take (i := 3) (oi := ⟨some 20, _, _, _, _, _⟩) (v := ?_) rfl (by kernel_rfl) (by kernel_rfl) (by kernel_rfl) (fun _ _ _ h => h) (Or.inl ⟨by rfl, ?_⟩) (by assumption) ?_
        rotate_left
        · intro w hSw; have c3 := ((hW.trans (hSw.mono hW.size)).cell (p := ⟨gx, 3, none⟩) lgx).trans H3.out; (try dsimp only at hSw); go_simp; (try with_reducible rfl)
        try simp only [Act.put, List.setIfInBounds_toArray, List.set_cons_zero, List.set_cons_succ]
        refine wpAnyH_take (i := 4) (oi := ⟨some 21, _, _, _, _, _⟩) (v := ?_) rfl (by kernel_rfl) (by kernel_rfl) (by kernel_rfl) (fun _ _ _ h => h) (Or.inl ⟨by rfl, ?_⟩) (by assumption) ?_
        rotate_left
        · intro w hSw; (try dsimp only at hSw); go_simp; (try with_reducible rfl)
        try simp only [Act.put, List.setIfInBounds_toArray, List.set_cons_zero, List.set_cons_succ]
        refine wpAnyH_take (i := 5) (oi := ⟨some 22, _, _, _, _, _⟩) (v := ?_) rfl (by kernel_rfl) (by kernel_rfl) (by kernel_rfl) (fun _ _ _ h => h) (Or.inl ⟨by rfl, ?_⟩) (by assumption) ?_
        rotate_left
        · intro w hSw; (try dsimp only at hSw); go_simp; (try with_reducible rfl)
        try simp only [Act.put, List.setIfInBounds_toArray, List.set_cons_zero, List.set_cons_succ]
        refine wpAnyH_take (i := 6) (oi := ⟨some 23, _, _, _, _, _⟩) (v := ?_) rfl (by kernel_rfl) (by kernel_rfl) (by kernel_rfl) (fun _ _ _ h => h) (Or.inl ⟨by rfl, ?_⟩) (by assumption) ?_
        rotate_left
        · intro w hSw; obtain ⟨d0, d1⟩ := (HR.out.keep (hW.trans (hSw.mono hW.size)) sR).cells; (try dsimp only at hSw); go_simp; (try with_reducible rfl)
        try simp only [Act.put, List.setIfInBounds_toArray, List.set_cons_zero, List.set_cons_succ]
        refine wpAnyH_take (i := 8) (oi := ⟨some 25, _, _, _, _, _⟩) (v := ?_) rfl (by kernel_rfl) (by kernel_rfl) (by kernel_rfl) (fun _ _ _ h => h) (Or.inl ⟨by rfl, ?_⟩) (by assumption) ?_
        rotate_left
        · intro w hSw; have ce := ((hW.trans (hSw.mono hW.size)).cell (p := ⟨ge, 0, none⟩) lge).trans HE.out; (try dsimp only at hSw); go_simp; (try with_reducible rfl)
        try simp only [Act.put, List.setIfInBounds_toArray, List.set_cons_zero, List.set_cons_succ]
        refine wpAnyH_ready (rs := [7]) (by kernel_rfl) (by simp) (AllReadyH.cons (o := ⟨some 24, _, _, _, _, _⟩) rfl (fun Kc hKc => ?_) AllReadyH.nil)
        go_simp
        go_at_call 56; refine (cendOf r Ad cd _ st HST.out (by omega) (by omega)).mono ?_; rintro e w' ⟨rfl, hcall⟩; dsimp only
        refine hKc.out _ _ (hHeld.trans (hcall.mono hHeld.size)) (fun hHeld => ?_)
        clear hKc Kc
        try simp only [Act.put, List.setIfInBounds_toArray, List.set_cons_zero, List.set_cons_succ]
        refine wpAnyH_take (i := 9) (oi := ⟨some 26, _, _, _, _, _⟩) (v := ?_) rfl (by kernel_rfl) (by kernel_rfl) (by kernel_rfl) (fun _ _ _ h => h) (Or.inl ⟨by rfl, ?_⟩) (by assumption) ?_
        rotate_left
        · intro w hSw; (try dsimp only at hSw); go_simp; (try with_reducible rfl)
        try simp only [Act.put, List.setIfInBounds_toArray, List.set_cons_zero, List.set_cons_succ]
        refine wpAnyH_take (i := 10) (oi := ⟨some 27, _, _, _, _, _⟩) (v := ?_) rfl (by kernel_rfl) (by kernel_rfl) (by kernel_rfl) (fun _ _ _ h => h) (Or.inl ⟨by rfl, ?_⟩) (by assumption) ?_
        rotate_left
        · intro w hSw; (try dsimp only at hSw); go_simp; (try with_reducible rfl)
        try simp only [Act.put, List.setIfInBounds_toArray, List.set_cons_zero, List.set_cons_succ]
        refine wpAnyH_take (i := 11) (oi := ⟨some 28, _, _, _, _, _⟩) (v := ?_) rfl (by kernel_rfl) (by kernel_rfl) (by kernel_rfl) (fun _ _ _ h => h) (Or.inl ⟨by rfl, ?_⟩) (by assumption) ?_
        rotate_left
        · intro w hSw; (try dsimp only at hSw); go_simp; (try with_reducible rfl)
        try simp only [Act.put, List.setIfInBounds_toArray, List.set_cons_zero, List.set_cons_succ]
        refine wpAnyH_take (i := 12) (oi := ⟨some 4, _, _, _, _, _⟩) (v := ?_) rfl (by kernel_rfl) (by kernel_rfl) (by kernel_rfl) (fun _ _ _ h => h) (Or.inl ⟨by rfl, ?_⟩) (by assumption) ?_
        rotate_left
        · intro w hSw; (try dsimp only at hSw); go_simp; (try with_reducible rfl)
        try simp only [Act.put, List.setIfInBounds_toArray, List.set_cons_zero, List.set_cons_succ]
        refine wpAnyH_done (by kernel_rfl) ?_ _
        have yF := hW.trans (hHeld.mono hW.size)
        clear hHeld
        go_wp2
        go_ret
        exact ⟨ret_bool (by rw [← HQ.out]; unfold clR; rw [HST.out]; first | (simp [*]; done) | (simp [*]; omega)), b0.trans (yF.mono b0.size)⟩
      ·
        try simp only [Act.put, List.setIfInBounds_toArray, List.set_cons_zero, List.set_cons_succ]
        refine wp_region_held_drew (S := fun Y => Below w1.heap.size w1 Y) (by kernel_rfl) ?_ (fun hHeld => ?_)
        · exact below_drew (Below.refl _ _)
        refine wpAnyH_take (i := 0) (oi := ⟨some 17, _, _, _, _, _⟩) (v := ?_) rfl (by kernel_rfl) (by kernel_rfl) (by kernel_rfl) (fun _ _ _ h => h) (Or.inl ⟨by rfl, ?_⟩) (by assumption) ?_
        rotate_left
        · intro w hSw; (try dsimp only at hSw); go_simp; (try with_reducible rfl)
        try simp only [Act.put, List.setIfInBounds_toArray, List.set_cons_zero, List.set_cons_succ]
        refine wpAnyH_take (i := 1) (oi := ⟨some 18, _, _, _, _, _⟩) (v := ?_) rfl (by kernel_rfl) (by kernel_rfl) (by kernel_rfl) (fun _ _ _ h => h) (Or.inl ⟨by rfl, ?_⟩) (by assumption) ?_
        rotate_left
        · intro w hSw; (try dsimp only at hSw); go_simp; (try with_reducible rfl)
        try simp only [Act.put, List.setIfInBounds_toArray, List.set_cons_zero, List.set_cons_succ]
        refine wpAnyH_take (i := 2) (oi := ⟨some 19, _, _, _, _, _⟩) (v := ?_) rfl (by kernel_rfl) (by kernel_rfl) (by kernel_rfl) (fun _ _ _ h => h) (Or.inl ⟨by rfl, ?_⟩) (by assumption) ?_
        rotate_left
        · intro w hSw; (try dsimp only at hSw); go_simp; (try with_reducible rfl)
        try simp only [Act.put, List.setIfInBounds_toArray, List.set_cons_zero, List.set_cons_succ]
        refine wpAnyH_take (i := 3) (oi := ⟨some 20, _, _, _, _, _⟩) (v := ?_) rfl (by kernel_rfl) (by kernel_rfl) (by kernel_rfl) (fun _ _ _ h => h) (Or.inl ⟨by rfl, ?_⟩) (by assumption) ?_
        rotate_left
        · intro w hSw; have c3 := ((hW.trans (hSw.mono hW.size)).cell (p := ⟨gx, 3, none⟩) lgx).trans H3.out; (try dsimp only at hSw); go_simp; (try with_reducible rfl)
        try simp only [Act.put, List.setIfInBounds_toArray, List.set_cons_zero, List.set_cons_succ]
        refine wpAnyH_take (i := 4) (oi := ⟨some 21, _, _, _, _, _⟩) (v := ?_) rfl (by kernel_rfl) (by kernel_rfl) (by kernel_rfl) (fun _ _ _ h => h) (Or.inl ⟨by rfl, ?_⟩) (by assumption) ?_
        rotate_left
        · intro w hSw; (try dsimp only at hSw); go_simp; (try with_reducible rfl)
        try simp only [Act.put, List.setIfInBounds_toArray, List.set_cons_zero, List.set_cons_succ]
        refine wpAnyH_take (i := 5) (oi := ⟨some 22, _, _, _, _, _⟩) (v := ?_) rfl (by kernel_rfl) (by kernel_rfl) (by kernel_rfl) (fun _ _ _ h => h) (Or.inl ⟨by rfl, ?_⟩) (by assumption) ?_
        rotate_left
        · intro w hSw; (try dsimp only at hSw); go_simp; (try with_reducible rfl)
        try simp only [Act.put, List.setIfInBounds_toArray, List.set_cons_zero, List.set_cons_succ]
        refine wpAnyH_take (i := 6) (oi := ⟨some 23, _, _, _, _, _⟩) (v := undef) rfl (by kernel_rfl) (by kernel_rfl) (by kernel_rfl) (fun _ _ _ h => h) (Or.inr ⟨by rfl, rfl⟩) (by assumption) ?_
        try simp only [Act.put, List.setIfInBounds_toArray, List.set_cons_zero, List.set_cons_succ]
        refine wpAnyH_take (i := 7) (oi := ⟨some 24, _, _, _, _, _⟩) (v := undef) rfl (by kernel_rfl) (by kernel_rfl) (by kernel_rfl) (fun _ _ _ h => h) (Or.inr ⟨by rfl, rfl⟩) (by assumption) ?_
        try simp only [Act.put, List.setIfInBounds_toArray, List.set_cons_zero, List.set_cons_succ]
        refine wpAnyH_take (i := 8) (oi := ⟨some 25, _, _, _, _, _⟩) (v := undef) rfl (by kernel_rfl) (by kernel_rfl) (by kernel_rfl) (fun _ _ _ h => h) (Or.inr ⟨by rfl, rfl⟩) (by assumption) ?_
        try simp only [Act.put, List.setIfInBounds_toArray, List.set_cons_zero, List.set_cons_succ]
        refine wpAnyH_take (i := 9) (oi := ⟨some 26, _, _, _, _, _⟩) (v := undef) rfl (by kernel_rfl) (by kernel_rfl) (by kernel_rfl) (fun _ _ _ h => h) (Or.inr ⟨by rfl, rfl⟩) (by assumption) ?_
        try simp only [Act.put, List.setIfInBounds_toArray, List.set_cons_zero, List.set_cons_succ]
        refine wpAnyH_take (i := 10) (oi := ⟨some 27, _, _, _, _, _⟩) (v := ?_) rfl (by kernel_rfl) (by kernel_rfl) (by kernel_rfl) (fun _ _ _ h => h) (Or.inl ⟨by rfl, ?_⟩) (by assumption) ?_
        rotate_left
        · intro w hSw; (try dsimp only at hSw); go_simp; (try with_reducible rfl)
        try simp only [Act.put, List.setIfInBounds_toArray, List.set_cons_zero, List.set_cons_succ]
        refine wpAnyH_take (i := 11) (oi := ⟨some 28, _, _, _, _, _⟩) (v := ?_) rfl (by kernel_rfl) (by kernel_rfl) (by kernel_rfl) (fun _ _ _ h => h) (Or.inl ⟨by rfl, ?_⟩) (by assumption) ?_
        rotate_left
        · intro w hSw; (try dsimp only at hSw); go_simp; (try with_reducible rfl)
        try simp only [Act.put, List.setIfInBounds_toArray, List.set_cons_zero, List.set_cons_succ]
        refine wpAnyH_take (i := 12) (oi := ⟨some 4, _, _, _, _, _⟩) (v := ?_) rfl (by kernel_rfl) (by kernel_rfl) (by kernel_rfl) (fun _ _ _ h => h) (Or.inl ⟨by rfl, ?_⟩) (by assumption) ?_
        rotate_left
        · intro w hSw; (try dsimp only at hSw); go_simp; (try with_reducible rfl)
        try simp only [Act.put, List.setIfInBounds_toArray, List.set_cons_zero, List.set_cons_succ]
        refine wpAnyH_done (by kernel_rfl) ?_ _
        have yF := hW.trans (hHeld.mono hW.size)
        clear hHeld
        go_wp2
        go_ret
        exact ⟨ret_bool (by rw [← HQ.out]; unfold clR; rw [HST.out]; first | (simp [*]; done) | (simp [*]; omega)), b0.trans (yF.mono b0.size)⟩
  ·
    try simp only [Act.put, List.setIfInBounds_toArray, List.set_cons_zero, List.set_cons_succ]
    refine wp_region_held_drew (S := fun Y => Below W.heap.size W Y) (by kernel_rfl) ?_ (fun hHeld => ?_)
    · exact below_drew (Below.refl _ _)
    refine wpAnyH_take (i := 0) (oi := ⟨some 6, _, _, _, _, _⟩) (v := ?_) rfl (by kernel_rfl) (by kernel_rfl) (by kernel_rfl) (fun _ _ _ h => h) (Or.inl ⟨by rfl, ?_⟩) (by assumption) ?_
    rotate_left
    · intro w hSw; (try dsimp only at hSw); go_simp; (try with_reducible rfl)
    try simp only [Act.put, List.setIfInBounds_toArray, List.set_cons_zero, List.set_cons_succ]
    refine wpAnyH_take (i := 1) (oi := ⟨some 7, _, _, _, _, _⟩) (v := ?_) rfl (by kernel_rfl) (by kernel_rfl) (by kernel_rfl) (fun _ _ _ h => h) (Or.inl ⟨by rfl, ?_⟩) (by assumption) ?_
    rotate_left
    · intro w hSw; obtain ⟨d0, d1⟩ := (HR.out.keep hSw sR).cells; (try dsimp only at hSw); go_simp; (try with_reducible rfl)
    try simp only [Act.put, List.setIfInBounds_toArray, List.set_cons_zero, List.set_cons_succ]
    refine wpAnyH_take (i := 2) (oi := ⟨some 8, _, _, _, _, _⟩) (v := ?_) rfl (by kernel_rfl) (by kernel_rfl) (by kernel_rfl) (fun _ _ _ h => h) (Or.inl ⟨by rfl, ?_⟩) (by assumption) ?_
    rotate_left
    · intro w hSw; have ce := (hSw.cell (p := ⟨ge, 0, none⟩) lge).trans HE.out; (try dsimp only at hSw); go_simp; (try with_reducible rfl)
    try simp only [Act.put, List.setIfInBounds_toArray, List.set_cons_zero, List.set_cons_succ]
    refine wpAnyH_take (i := 3) (oi := ⟨some 9, _, _, _, _, _⟩) (v := ?_) rfl (by kernel_rfl) (by kernel_rfl) (by kernel_rfl) (fun _ _ _ h => h) (Or.inl ⟨by rfl, ?_⟩) (by assumption) ?_
    rotate_left
    · intro w hSw; (try dsimp only at hSw); go_simp; (try with_reducible rfl)
    try simp only [Act.put, List.setIfInBounds_toArray, List.set_cons_zero, List.set_cons_succ]
    refine wpAnyH_take (i := 4) (oi := ⟨some 10, _, _, _, _, _⟩) (v := ?_) rfl (by kernel_rfl) (by kernel_rfl) (by kernel_rfl) (fun _ _ _ h => h) (Or.inl ⟨by rfl, ?_⟩) (by assumption) ?_
    rotate_left
    · intro w hSw; (try dsimp only at hSw); go_simp; (try with_reducible rfl)
    try simp only [Act.put, List.setIfInBounds_toArray, List.set_cons_zero, List.set_cons_succ]
    refine wpAnyH_take (i := 5) (oi := ⟨some 11, _, _, _, _, _⟩) (v := undef) rfl (by kernel_rfl) (by kernel_rfl) (by kernel_rfl) (fun _ _ _ h => h) (Or.inr ⟨by rfl, rfl⟩) (by assumption) ?_
    try simp only [Act.put, List.setIfInBounds_toArray, List.set_cons_zero, List.set_cons_succ]
    refine wpAnyH_take (i := 6) (oi := ⟨some 12, _, _, _, _, _⟩) (v := undef) rfl (by kernel_rfl) (by kernel_rfl) (by kernel_rfl) (fun _ _ _ h => h) (Or.inr ⟨by rfl, rfl⟩) (by assumption) ?_
    try simp only [Act.put, List.setIfInBounds_toArray, List.set_cons_zero, List.set_cons_succ]
    refine wpAnyH_take (i := 7) (oi := ⟨some 13, _, _, _, _, _⟩) (v := undef) rfl (by kernel_rfl) (by kernel_rfl) (by kernel_rfl) (fun _ _ _ h => h) (Or.inr ⟨by rfl, rfl⟩) (by assumption) ?_
    try simp only [Act.put, List.setIfInBounds_toArray, List.set_cons_zero, List.set_cons_succ]
    refine wpAnyH_take (i := 8) (oi := ⟨some 14, _, _, _, _, _⟩) (v := undef) rfl (by kernel_rfl) (by kernel_rfl) (by kernel_rfl) (fun _ _ _ h => h) (Or.inr ⟨by rfl, rfl⟩) (by assumption) ?_
    try simp only [Act.put, List.setIfInBounds_toArray, List.set_cons_zero, List.set_cons_succ]
    refine wpAnyH_take (i := 9) (oi := ⟨some 15, _, _, _, _, _⟩) (v := undef) rfl (by kernel_rfl) (by kernel_rfl) (by kernel_rfl) (fun _ _ _ h => h) (Or.inr ⟨by rfl, rfl⟩) (by assumption) ?_
    try simp only [Act.put, List.setIfInBounds_toArray, List.set_cons_zero, List.set_cons_succ]
    refine wpAnyH_take (i := 10) (oi := ⟨some 16, _, _, _, _, _⟩) (v := ?_) rfl (by kernel_rfl) (by kernel_rfl) (by kernel_rfl) (fun _ _ _ h => h) (Or.inl ⟨by rfl, ?_⟩) (by assumption) ?_
    rotate_left
    · intro w hSw; (try dsimp only at hSw); go_simp; (try with_reducible rfl)
    try simp only [Act.put, List.setIfInBounds_toArray, List.set_cons_zero, List.set_cons_succ]
    refine wpAnyH_take (i := 11) (oi := ⟨some 5, _, _, _, _, _⟩) (v := ?_) rfl (by kernel_rfl) (by kernel_rfl) (by kernel_rfl) (fun _ _ _ h => h) (Or.inl ⟨by rfl, ?_⟩) (by assumption) ?_
    rotate_left
    · intro w hSw; (try dsimp only at hSw); go_simp; (try with_reducible rfl)
    try simp only [Act.put, List.setIfInBounds_toArray, List.set_cons_zero, List.set_cons_succ]
    refine wpAnyH_done (by kernel_rfl) ?_ _
    have hW := hHeld
    clear hHeld
    go_upto_region 2 with fail
    generalize hw1 : W.drew = w1 at *
    clear hw1
    cases mf
    ·
      try simp only [Act.put, List.setIfInBounds_toArray, List.set_cons_zero, List.set_cons_succ]
      refine wp_region_held_drew (S := fun Y => Below w1.heap.size w1 Y) (by kernel_rfl) ?_ (fun hHeld => ?_)
      · exact below_drew (Below.refl _ _)
      refine wpAnyH_take (i := 0) (oi := ⟨some 17, _, _, _, _, _⟩) (v := ?_) rfl (by kernel_rfl) (by kernel_rfl) (by kernel_rfl) (fun _ _ _ h => h) (Or.inl ⟨by rfl, ?_⟩) (by assumption) ?_
      rotate_left
      · intro w hSw; (try dsimp only at hSw); go_simp; (try with_reducible rfl)
      try simp only [Act.put, List.setIfInBounds_toArray, List.set_cons_zero, List.set_cons_succ]
      refine wpAnyH_take (i := 1) (oi := ⟨some 18, _, _, _, _, _⟩) (v := ?_) rfl (by kernel_rfl) (by kernel_rfl) (by kernel_rfl) (fun _ _ _ h => h) (Or.inl ⟨by rfl, ?_⟩) (by assumption) ?_
      rotate_left
      · intro w hSw; (try dsimp only at hSw); go_simp; (try with_reducible rfl)
      try simp only [Act.put, List.setIfInBounds_toArray, List.set_cons_zero, List.set_cons_succ]
      refine wpAnyH_take (i := 2) (oi := ⟨some 19, _, _, _, _, _⟩) (v := ?_) rfl (by kernel_rfl) (by kernel_rfl) (by kernel_rfl) (fun _ _ _ h => h) (Or.inl ⟨by rfl, ?_⟩) (by assumption) ?_
      rotate_left
      · intro w hSw; (try dsimp only at hSw); go_simp; (try with_reducible rfl)
      try simp only [Act.put, List.setIfInBounds_toArray, List.set_cons_zero, List.set_cons_succ]
      refine wpAnyH_take (i := 3) (oi := ⟨some 20, _, _, _, _, _⟩) (v := ?_) rfl (by kernel_rfl) (by kernel_rfl) (by kernel_rfl) (fun _ _ _ h => h) (Or.inl ⟨by rfl, ?_⟩) (by assumption) ?_
      rotate_left
      · intro w hSw; have c3 := ((hW.trans (hSw.mono hW.size)).cell (p := ⟨gx, 3, none⟩) lgx).trans H3.out; (try dsimp only at hSw); go_simp; (try with_reducible rfl)
      try simp only [Act.put, List.setIfInBounds_toArray, List.set_cons_zero, List.set_cons_succ]
      refine wpAnyH_take (i := 4) (oi := ⟨some 21, _, _, _, _, _⟩) (v := ?_) rfl (by kernel_rfl) (by kernel_rfl) (by kernel_rfl) (fun _ _ _ h => h) (Or.inl ⟨by rfl, ?_⟩) (by assumption) ?_
      rotate_left
      · intro w hSw; (try dsimp only at hSw); go_simp; (try with_reducible rfl)
      try simp only [Act.put, List.setIfInBounds_toArray, List.set_cons_zero, List.set_cons_succ]
      refine wpAnyH_take (i := 5) (oi := ⟨some 22, _, _, _, _, _⟩) (v := ?_) rfl (by kernel_rfl) (by kernel_rfl) (by kernel_rfl) (fun _ _ _ h => h) (Or.inl ⟨by rfl, ?_⟩) (by assumption) ?_
      rotate_left
      · intro w hSw; (try dsimp only at hSw); go_simp; (try with_reducible rfl)
      try simp only [Act.put, List.setIfInBounds_toArray, List.set_cons_zero, List.set_cons_succ]
      refine wpAnyH_take (i := 6) (oi := ⟨some 23, _, _, _, _, _⟩) (v := ?_) rfl (by kernel_rfl) (by kernel_rfl) (by kernel_rfl) (fun _ _ _ h => h) (Or.inl ⟨by rfl, ?_⟩) (by assumption) ?_
      rotate_left
      · intro w hSw; obtain ⟨d0, d1⟩ := (HR.out.keep (hW.trans (hSw.mono hW.size)) sR).cells; (try dsimp only at hSw); go_simp; (try with_reducible rfl)
      try simp only [Act.put, List.setIfInBounds_toArray, List.set_cons_zero, List.set_cons_succ]
      refine wpAnyH_take (i := 8) (oi := ⟨some 25, _, _, _, _, _⟩) (v := ?_) rfl (by kernel_rfl) (by kernel_rfl) (by kernel_rfl) (fun _ _ _ h => h) (Or.inl ⟨by rfl, ?_⟩) (by assumption) ?_
      rotate_left
      · intro w hSw; have ce := ((hW.trans (hSw.mono hW.size)).cell (p := ⟨ge, 0, none⟩) lge).trans HE.out; (try dsimp only at hSw); go_simp; (try with_reducible rfl)
      try simp only [Act.put, List.setIfInBounds_toArray, List.set_cons_zero, List.set_cons_succ]
      refine wpAnyH_ready (rs := [7]) (by kernel_rfl) (by simp) (AllReadyH.cons (o := ⟨some 24, _, _, _, _, _⟩) rfl (fun Kc hKc => ?_) AllReadyH.nil)
      go_simp
      go_at_call 56; refine (cendOf r Ad cd _ st HST.out (by omega) (by omega)).mono ?_; rintro e w' ⟨rfl, hcall⟩; dsimp only
      refine hKc.out _ _ (hHeld.trans (hcall.mono hHeld.size)) (fun hHeld => ?_)
      clear hKc Kc
      try simp only [Act.put, List.setIfInBounds_toArray, List.set_cons_zero, List.set_cons_succ]
      refine wpAnyH_take (i := 9) (oi := ⟨some 26, _, _, _, _, _⟩) (v := ?_) rfl (by kernel_rfl) (by kernel_rfl) (by kernel_rfl) (fun _ _ _ h => h) (Or.inl ⟨by rfl, ?_⟩) (by assumption) ?_
      rotate_left
      · intro w hSw; (try dsimp only at hSw); go_simp; (try with_reducible rfl)
      try simp only [Act.put, List.setIfInBounds_toArray, List.set_cons_zero, List.set_cons_succ]
      refine wpAnyH_take (i := 10) (oi := ⟨some 27, _, _, _, _, _⟩) (v := ?_) rfl (by kernel_rfl) (by kernel_rfl) (by kernel_rfl) (fun _ _ _ h => h) (Or.inl ⟨by rfl, ?_⟩) (by assumption) ?_
      rotate_left
      · intro w hSw; (try dsimp only at hSw); go_simp; (try with_reducible rfl)
      try simp only [Act.put, List.setIfInBounds_toArray, List.set_cons_zero, List.set_cons_succ]
      refine wpAnyH_take (i := 11) (oi := ⟨some 28, _, _, _, _, _⟩) (v := ?_) rfl (by kernel_rfl) (by kernel_rfl) (by kernel_rfl) (fun _ _ _ h => h) (Or.inl ⟨by rfl, ?_⟩) (by assumption) ?_
      rotate_left
      · intro w hSw; (try dsimp only at hSw); go_simp; (try with_reducible rfl)
      try simp only [Act.put, List.setIfInBounds_toArray, List.set_cons_zero, List.set_cons_succ]
      refine wpAnyH_take (i := 12) (oi := ⟨some 4, _, _, _, _, _⟩) (v := ?_) rfl (by kernel_rfl) (by kernel_rfl) (by kernel_rfl) (fun _ _ _ h => h) (Or.inl ⟨by rfl, ?_⟩) (by assumption) ?_
      rotate_left
      · intro w hSw; (try dsimp only at hSw); go_simp; (try with_reducible rfl)
      try simp only [Act.put, List.setIfInBounds_toArray, List.set_cons_zero, List.set_cons_succ]
      refine wpAnyH_done (by kernel_rfl) ?_ _
      have yF := hW.trans (hHeld.mono hW.size)
      clear hHeld
      go_wp2
      go_ret
      exact ⟨ret_bool (by rw [← HQ.out]; unfold clR; rw [HST.out]; first | (simp [*]; done) | (simp [*]; omega)), b0.trans (yF.mono b0.size)⟩
    ·
      try simp only [Act.put, List.setIfInBounds_toArray, List.set_cons_zero, List.set_cons_succ]
      refine wp_region_held_drew (S := fun Y => Below w1.heap.size w1 Y) (by kernel_rfl) ?_ (fun hHeld => ?_)
      · exact below_drew (Below.refl _ _)
      refine wpAnyH_take (i := 0) (oi := ⟨some 17, _, _, _, _, _⟩) (v := ?_) rfl (by kernel_rfl) (by kernel_rfl) (by kernel_rfl) (fun _ _ _ h => h) (Or.inl ⟨by rfl, ?_⟩) (by assumption) ?_
      rotate_left
      · intro w hSw; (try dsimp only at hSw); go_simp; (try with_reducible rfl)
      try simp only [Act.put, List.setIfInBounds_toArray, List.set_cons_zero, List.set_cons_succ]
      refine wpAnyH_take (i := 1) (oi := ⟨some 18, _, _, _, _, _⟩) (v := ?_) rfl (by kernel_rfl) (by kernel_rfl) (by kernel_rfl) (fun _ _ _ h => h) (Or.inl ⟨by rfl, ?_⟩) (by assumption) ?_
      rotate_left
      · intro w hSw; (try dsimp only at hSw); go_simp; (try with_reducible rfl)
      try simp only [Act.put, List.setIfInBounds_toArray, List.set_cons_zero, List.set_cons_succ]
      refine wpAnyH_take (i := 2) (oi := ⟨some 19, _, _, _, _, _⟩) (v := ?_) rfl (by kernel_rfl) (by kernel_rfl) (by kernel_rfl) (fun _ _ _ h => h) (Or.inl ⟨by rfl, ?_⟩) (by assumption) ?_
      rotate_left
      · intro w hSw; (try dsimp only at hSw); go_simp; (try with_reducible rfl)
      try simp only [Act.put, List.setIfInBounds_toArray, List.set_cons_zero, List.set_cons_succ]
      refine wpAnyH_take (i := 3) (oi := ⟨some 20, _, _, _, _, _⟩) (v := ?_) rfl (by kernel_rfl) (by kernel_rfl) (by kernel_rfl) (fun _ _ _ h => h) (Or.inl ⟨by rfl, ?_⟩) (by assumption) ?_
      rotate_left
      · intro w hSw; have c3 := ((hW.trans (hSw.mono hW.size)).cell (p := ⟨gx, 3, none⟩) lgx).trans H3.out; (try dsimp only at hSw); go_simp; (try with_reducible rfl)
      try simp only [Act.put, List.setIfInBounds_toArray, List.set_cons_zero, List.set_cons_succ]
      refine wpAnyH_take (i := 4) (oi := ⟨some 21, _, _, _, _, _⟩) (v := ?_) rfl (by kernel_rfl) (by kernel_rfl) (by kernel_rfl) (fun _ _ _ h => h) (Or.inl ⟨by rfl, ?_⟩) (by assumption) ?_
      rotate_left
      · intro w hSw; (try dsimp only at hSw); go_simp; (try with_reducible rfl)
      try simp only [Act.put, List.setIfInBounds_toArray, List.set_cons_zero, List.set_cons_succ]
      refine wpAnyH_take (i := 5) (oi := ⟨some 22, _, _, _, _, _⟩) (v := ?_) rfl (by kernel_rfl) (by kernel_rfl) (by kernel_rfl) (fun _ _ _ h => h) (Or.inl ⟨by rfl, ?_⟩) (by assumption) ?_
      rotate_left
      · intro w hSw; (try dsimp only at hSw); go_simp; (try with_reducible rfl)
      try simp only [Act.put, List.setIfInBounds_toArray, List.set_cons_zero, List.set_cons_succ]
      refine wpAnyH_take (i := 6) (oi := ⟨some 23, _, _, _, _, _⟩) (v := undef) rfl (by kernel_rfl) (by kernel_rfl) (by kernel_rfl) (fun _ _ _ h => h) (Or.inr ⟨by rfl, rfl⟩) (by assumption) ?_
      try simp only [Act.put, List.setIfInBounds_toArray, List.set_cons_zero, List.set_cons_succ]
      refine wpAnyH_take (i := 7) (oi := ⟨some 24, _, _, _, _, _⟩) (v := undef) rfl (by kernel_rfl) (by kernel_rfl) (by kernel_rfl) (fun _ _ _ h => h) (Or.inr ⟨by rfl, rfl⟩) (by assumption) ?_
      try simp only [Act.put, List.setIfInBounds_toArray, List.set_cons_zero, List.set_cons_succ]
      refine wpAnyH_take (i := 8) (oi := ⟨some 25, _, _, _, _, _⟩) (v := undef) rfl (by kernel_rfl) (by kernel_rfl) (by kernel_rfl) (fun _ _ _ h => h) (Or.inr ⟨by rfl, rfl⟩) (by assumption) ?_
      try simp only [Act.put, List.setIfInBounds_toArray, List.set_cons_zero, List.set_cons_succ]
      refine wpAnyH_take (i := 9) (oi := ⟨some 26, _, _, _, _, _⟩) (v := undef) rfl (by kernel_rfl) (by kernel_rfl) (by kernel_rfl) (fun _ _ _ h => h) (Or.inr ⟨by rfl, rfl⟩) (by assumption) ?_
      try simp only [Act.put, List.setIfInBounds_toArray, List.set_cons_zero, List.set_cons_succ]
      refine wpAnyH_take (i := 10) (oi := ⟨some 27, _, _, _, _, _⟩) (v := ?_) rfl (by kernel_rfl) (by kernel_rfl) (by kernel_rfl) (fun _ _ _ h => h) (Or.inl ⟨by rfl, ?_⟩) (by assumption) ?_
      rotate_left
      · intro w hSw; (try dsimp only at hSw); go_simp; (try with_reducible rfl)
      try simp only [Act.put, List.setIfInBounds_toArray, List.set_cons_zero, List.set_cons_succ]
      refine wpAnyH_take (i := 11) (oi := ⟨some 28, _, _, _, _, _⟩) (v := ?_) rfl (by kernel_rfl) (by kernel_rfl) (by kernel_rfl) (fun _ _ _ h => h) (Or.inl ⟨by rfl, ?_⟩) (by assumption) ?_
      rotate_left
      · intro w hSw; (try dsimp only at hSw); go_simp; (try with_reducible rfl)
      try simp only [Act.put, List.setIfInBounds_toArray, List.set_cons_zero, List.set_cons_succ]
      refine wpAnyH_take (i := 12) (oi := ⟨some 4, _, _, _, _, _⟩) (v := ?_) rfl (by kernel_rfl) (by kernel_rfl) (by kernel_rfl) (fun _ _ _ h => h) (Or.inl ⟨by rfl, ?_⟩) (by assumption) ?_
      rotate_left
      · intro w hSw; (try dsimp only at hSw); go_simp; (try with_reducible rfl)
      try simp only [Act.put, List.setIfInBounds_toArray, List.set_cons_zero, List.set_cons_succ]
      refine wpAnyH_done (by kernel_rfl) ?_ _
      have yF := hW.trans (hHeld.mono hW.size)
      clear hHeld
      go_wp2
      go_ret
      exact ⟨ret_bool (by rw [← HQ.out]; unfold clR; rw [HST.out]; first | (simp [*]; done) | (simp [*]; omega)), b0.trans (yF.mono b0.size)⟩
end Go.Proofs.Ytmblkgnjcmneeaa

/- The contracts of slices.IndexFunc and ContainsFunc at runs with the closure of clashes, and of clashes. -/
namespace Go.Proofs.Ytmblkgnjcmneeaa
open Go.ChangeShapes Go.WideShapes Go.ChangeAt Go.RowKit
set_option linter.unusedVariables false
set_option linter.unusedSimpArgs false

theorem any_take_step (f : Rn → Bool) (l : List Rn) (k : Nat) (h : k < l.length) : (l.take (k + 1)).any f = ((l.take k).any f || f l[k]) := by
  rw [List.take_succ_eq_append_getElem h, List.any_append]; simp
theorem any_at (f : Rn → Bool) (l : List Rn) (k : Nat) (h : k < l.length) (hf : f l[k] = true) : l.any f = true := List.any_eq_true.2 ⟨_, List.getElem_mem h, hf⟩
set_option maxRecDepth 100000 in
set_option maxHeartbeats 8000000 in
theorem cidxR (rs : List Rn) (A : Option Addr) (c : Nat) (ge gx : Nat) (off stop : Int) (mf : Bool) (w : World) (V : Nat → Prop) (hr : Rs w V A rs) (lt : ∀ b, V b → b < w.heap.size) (hc : rs.length ≤ c) (hc2 : c ≤ 9223372036854775807) (he : w.cell? ⟨ge, 0, none⟩ = some (.int .i64 stop)) (h4 : w.cell? ⟨gx, 4, none⟩ = some (.int .i64 off)) (h3 : w.cell? ⟨gx, 3, none⟩ = some (.bool mf))
    (hb : ∀ r ∈ rs, -9223372036854775808 ≤ stopR r ∧ stopR r ≤ 9223372036854775807) :
    Calls Try.prog 67 #[.slice A rs.length c, .func (.func 55) #[] #[.pointer (some ⟨ge, 0, none⟩), .pointer (some ⟨gx, 0, none⟩)]] w fun e w' => ∃ k : Int, e = .returned (.int .i64 k) ∧ decide (0 ≤ k) = rs.any (fun r => clR r off stop mf) ∧ Below w.heap.size w w' := by
  have HR := Go.Lib.hid hr
  have HV := Go.Lib.hid lt
  have HE := Go.Lib.hid he
  have H4 := Go.Lib.hid h4
  have H3 := Go.Lib.hid h3
  have lge := World.block_lt_of_cell? w _ he
  have lgx := World.block_lt_of_cell? w _ h4
  have HB := Go.Lib.hid hb
  clear hr lt he h4 h3 hb
  go_enter Try.func67, Try.ntmps67
  go_wp2
  go_loopw [8] (fun i wr => ∃ k : Nat, k ≤ rs.length ∧ i = .int .i64 k ∧ Hid ((rs.take k).any (fun r => clR r off stop mf) = false) ∧ Below w.heap.size w wr) (fun i _ => rs.length - (intOf i).toNat)
  case atStart => exact ⟨0, by omega, rfl, Go.Lib.hid (by simp), Below.refl _ _⟩
  case round =>
    rename World => wo
    obtain ⟨k, hk, rfl, HT, x1⟩ := hrel
    by_cases hlt : k < rs.length
    · obtain ⟨ad, Ad, cd, rfl, hb, r0, r1, rb⟩ := (HR.out.keep (KeepV.of x1 HV.out)).at_ hlt
      have HBB := HB.out _ (List.getElem_mem hlt)
      have HS := Go.Lib.hid (any_take_step (fun r => clR r off stop mf) rs k hlt)
      have HA : Hid (∀ x, rs[k] = x → clR x off stop mf = true → rs.any (fun r => clR r off stop mf) = true) := Go.Lib.hid (fun x h hx => any_at _ rs k hlt (by rw [h]; exact hx))
      have i1 : (0 : Int) ≤ (k : Int) := by omega
      have i2 : (k : Int) < (rs.length : Int) := by omega
      clear rb
      generalize hd : rs[k] = y at *
      have HA2 := Go.Lib.hid (HA.out y rfl)
      clear HA hd
      obtain ⟨e1, e2⟩ := HBB
      cases hq : clR y off stop mf
      · go_wp2_with (first
          | (go_at_call 55; refine (cclash1 y Ad cd ge gx off stop mf false hq _ ((x1.cell (p := ⟨ge, 0, none⟩) lge).trans HE.out) ((x1.cell (p := ⟨gx, 4, none⟩) lgx).trans H4.out) ((x1.cell (p := ⟨gx, 3, none⟩) lgx).trans H3.out) e1 e2).mono ?_; rintro e w' ⟨rfl, hcall⟩; dsimp only))
        go_round
        case rel => exact ⟨k + 1, by omega, by go_num, Go.Lib.hid (by rw [HS.out, HT.out]; exact hq), x1.trans (hcall.mono x1.size)⟩
        case measure => simp [intOf]; omega
      · go_wp2_with (first
          | (go_at_call 55; refine (cclash1 y Ad cd ge gx off stop mf true hq _ ((x1.cell (p := ⟨ge, 0, none⟩) lge).trans HE.out) ((x1.cell (p := ⟨gx, 4, none⟩) lgx).trans H4.out) ((x1.cell (p := ⟨gx, 3, none⟩) lgx).trans H3.out) e1 e2).mono ?_; rintro e w' ⟨rfl, hcall⟩; dsimp only))
        go_ret
        exact ⟨k, rfl, by rw [HA2.out hq]; simp, x1.trans (hcall.mono x1.size)⟩
    · obtain rfl : k = rs.length := by omega
      go_wp2
      go_ret
      exact ⟨-1, rfl, by have := HT.out; rw [List.take_length] at this; rw [this]; decide, x1⟩
set_option maxRecDepth 100000 in
set_option maxHeartbeats 4000000 in
theorem ccontR (rs : List Rn) (A : Option Addr) (c : Nat) (ge gx : Nat) (off stop : Int) (mf : Bool) (w : World) (V : Nat → Prop) (hr : Rs w V A rs) (lt : ∀ b, V b → b < w.heap.size) (hc : rs.length ≤ c) (hc2 : c ≤ 9223372036854775807) (he : w.cell? ⟨ge, 0, none⟩ = some (.int .i64 stop)) (h4 : w.cell? ⟨gx, 4, none⟩ = some (.int .i64 off)) (h3 : w.cell? ⟨gx, 3, none⟩ = some (.bool mf))
    (hb : ∀ r ∈ rs, -9223372036854775808 ≤ stopR r ∧ stopR r ≤ 9223372036854775807) :
    Calls Try.prog 54 #[.slice A rs.length c, .func (.func 55) #[] #[.pointer (some ⟨ge, 0, none⟩), .pointer (some ⟨gx, 0, none⟩)]] w fun e w' => e = .returned (.bool (rs.any (fun r => clR r off stop mf))) ∧ Below w.heap.size w w' := by
  have HX := Go.Lib.hid (cidxR rs A c ge gx off stop mf w V hr lt hc hc2 he h4 h3 hb)
  clear hr he h4 h3 hb lt
  go_enter Try.func54, Try.ntmps54
  go_wp2_with (first
    | (go_at_call 67; refine HX.out.mono ?_; rintro e w' ⟨k, rfl, hk, hcall⟩; have HK := Go.Lib.hid hk; clear hk; dsimp only))
  go_ret
  exact ⟨ret_bool HK.out, hcall⟩
theorem clash_code {b : Bf} {x : Pk} (t0 : b.total = -1 ∨ 1 ≤ b.total) : clashB b x = (((b.total != -1) && (!x.mf || decide (b.total < x.off + (x.body.length : Int)))) || b.runs.any (fun r => clR r x.off (x.off + (x.body.length : Int)) x.mf)) := by
  unfold clashB clR
  congr 1
  congr 1
  rw [Bool.eq_iff_iff, decide_eq_true_eq, bne_iff_ne]
  omega
set_option maxRecDepth 100000 in
set_option maxHeartbeats 4000000 in
theorem cclashes (b : Bf) (Ao : Option Addr) (co : Nat) (Ab : Option Addr) (cb : Nat) (Ar : Option Addr) (cr : Nat) (x : Pk) (Bo : Option Addr) (do_ : Nat) (Bb : Option Addr) (db : Nat) (q : Bool) (hq : clashB b x = q) (w : World) (V : Nat → Prop) (hB : BfAt w V b Ao co Ab cb Ar cr) (hR : RunsOk b.total 0 b.runs) (t0 : b.total = -1 ∨ 1 ≤ b.total) (x0 : 0 ≤ x.off) (x1 : x.off ≤ 65535) (xb : x.body.length ≤ 16777216) :
    Calls Try.prog 33 #[bfV b Ao co Ab cb Ar cr, ipV x Bo do_ Bb db] w fun e w' => e = .returned (.bool q) ∧ Below w.heap.size w w' := by
  rw [clash_code t0] at hq
  have HQ := Go.Lib.hid hq
  have HRB : Hid (∀ r ∈ b.runs, -9223372036854775808 ≤ stopR r ∧ stopR r ≤ 9223372036854775807) := Go.Lib.hid (fun r hr => by
    have := runs_each _ _ _ hR (Int.le_refl 0) r hr
    have h2 : stopR r = r.off + (r.data.length : Int) := rfl
    omega)
  have y0 : Below w.heap.size w ((w.alloc (oBf b Ao co Ab cb Ar cr)).alloc (oPk x Bo do_ Bb db)) := below_alloc (below_alloc (Below.refl _ _) (Nat.le_refl _) _) (by simp) _
  have h1 := (Bxo.made w 67 (bfL b Ao co Ab cb Ar cr)).alloc (oPk x Bo do_ Bb db)
  have h2 : Bxo ((w.alloc (oBf b Ao co Ab cb Ar cr)).alloc (oPk x Bo do_ Bb db)) (w.heap.size + 1) 25 (pkL x Bo do_ Bb db) := by
    have := Bxo.made (w.alloc (oBf b Ao co Ab cb Ar cr)) 25 (pkL x Bo do_ Bb db)
    simpa using this
  have hz : ((w.alloc (oBf b Ao co Ab cb Ar cr)).alloc (oPk x Bo do_ Bb db)).heap.size = w.heap.size + 2 := by simp
  have hB2 := hB.at y0
  have rlen := hB.rlen
  have rcap := hB.rcap
  have e1 := IntWalk.i64_in (x.off + (x.body.length : Int)) (by omega)
  clear hB hq hR
  go_enter Try.func33, Try.ntmps33
  go_upto_region 1 with fail
  generalize ((w.alloc (oBf b Ao co Ab cb Ar cr)).alloc (oPk x Bo do_ Bb db)) = W at *
  have H1 := Go.Lib.hid h1
  have H2 := Go.Lib.hid h2
  have HB2 := Go.Lib.hid hB2
  clear h1 h2 hB2
  have c4 := H2.out.cell 4 rfl
  have c10 := H2.out.cell 10 rfl
  go_upto_region 2 with fail
  have y3 : Below W.heap.size W (W.alloc (.cells #[.int .i64 (x.off + (x.body.length : Int))] 3)) := (Below.refl _ _).alloc (Nat.le_refl _) _
  have HE3 : Hid ((W.alloc (.cells #[.int .i64 (x.off + (x.body.length : Int))] 3)).cell? ⟨W.heap.size, 0, none⟩ = some (.int .i64 (x.off + (x.body.length : Int)))) := Go.Lib.hid (by simp [go_sem])
  have K1 := Go.Lib.hid (H1.out.alloc (.cells #[.int .i64 (x.off + (x.body.length : Int))] 3))
  have K2 := Go.Lib.hid (H2.out.alloc (.cells #[.int .i64 (x.off + (x.body.length : Int))] 3))
  have HB3 := Go.Lib.hid (HB2.out.at y3)
  generalize W.alloc (.cells #[.int .i64 (x.off + (x.body.length : Int))] 3) = W3 at *
  have ce := HE3.out
  rw [hz] at ce
  have hx0 : y0.size = y0.size := rfl
  clear c4 c10 hx0
  have c17 := K1.out.cell 17 rfl
  have c18 := K1.out.cell 18 rfl
  have c3 := K2.out.cell 3 rfl
  generalize hany : b.runs.any (fun r => clR r x.off (x.off + (x.body.length : Int)) x.mf) = an at *
  have HAN := Go.Lib.hid hany
  clear hany
  by_cases h1 : b.total = -1
  · have t1 : (b.total != -1) = false := by simp [h1]
    have HQ2 : Hid (q = an) := Go.Lib.hid (by rw [← HQ.out, t1]; rfl)
    clear h1 HQ
    go_wp2_with (first
      | (go_at_call 54; refine (ccontR b.runs Ar cr (w.heap.size + 2) (w.heap.size + 1) x.off (x.off + (x.body.length : Int)) x.mf _ V HB3.out.runs HB3.out.lt rlen rcap ce (K2.out.cell 4 rfl) (K2.out.cell 3 rfl) HRB.out).mono ?_; rintro e w' ⟨rfl, hcall⟩; dsimp only))
    go_ret
    exact ⟨ret_bool (by rw [HQ2.out, HAN.out]), (y0.trans (y3.mono y0.size)).trans (hcall.mono (Nat.le_trans y0.size y3.size))⟩
  · have t1 : (b.total != -1) = true := by simp [h1]
    clear h1
    cases hm : x.mf
    · have HQ2 : Hid (q = true) := Go.Lib.hid (by rw [← HQ.out, t1, hm]; rfl)
      rw [hm] at c3
      clear HQ
      go_wp2
      go_ret
      exact ⟨ret_bool (by rw [HQ2.out]), y0.trans (y3.mono y0.size)⟩
    · by_cases h2 : b.total < x.off + (x.body.length : Int)
      · have HQ2 : Hid (q = true) := Go.Lib.hid (by rw [← HQ.out, t1, hm]; simp [h2])
        rw [hm] at c3
        clear HQ
        go_wp2
        go_ret
        exact ⟨ret_bool (by rw [HQ2.out]), y0.trans (y3.mono y0.size)⟩
      · have HQ2 : Hid (q = an) := Go.Lib.hid (by rw [← HQ.out, t1, hm]; simp [h2])
        have K2' := K2
        rw [hm] at c3
        clear HQ
        have HM := Go.Lib.hid hm
        clear hm
        go_wp2_with (first
      | (go_at_call 54; refine (ccontR b.runs Ar cr (w.heap.size + 2) (w.heap.size + 1) x.off (x.off + (x.body.length : Int)) x.mf _ V HB3.out.runs HB3.out.lt rlen rcap ce (K2.out.cell 4 rfl) (K2.out.cell 3 rfl) HRB.out).mono ?_; rintro e w' ⟨rfl, hcall⟩; dsimp only))
        go_ret
        exact ⟨ret_bool (by rw [HQ2.out, HAN.out]), (y0.trans (y3.mono y0.size)).trans (hcall.mono (Nat.le_trans y0.size y3.size))⟩
end Go.Proofs.Ytmblkgnjcmneeaa
