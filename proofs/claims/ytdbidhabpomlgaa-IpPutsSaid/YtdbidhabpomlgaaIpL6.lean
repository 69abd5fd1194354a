/- Statements of layer 3, walked: any packet is put as the document says, or refused; two are the same just if it says so. -/
import Derived.Test.YtdbidhabpomlgaaIpL2
import Derived.Deep.DeepCutAuto
namespace Go.Proofs.Ytdbidhabpomlgaa
open Go.ChangeShapes Go.WideShapes Go.ChangeAt Go.RowKit
set_option linter.unusedVariables false

/-- two packets that were boxed by the call are still there. -/
def Bx2 (p : Pk) (Ao : Option Addr) (co : Nat) (Ab : Option Addr) (cb : Nat) (q : Pk) (Ao' : Option Addr) (co' : Nat) (Ab' : Option Addr) (cb' : Nat) (w w' : World) : Prop :=
  Below (w.heap.size + 2) ((w.alloc (.cells #[.int .i64 p.tos, .int .i64 p.id, .bool p.df, .bool p.mf, .int .i64 p.off, .int .i64 p.ttl, .int .i64 p.proto, .int .u32 p.src, .int .u32 p.dst, .slice Ao p.opts.length co, .slice Ab p.body.length cb] 25)).alloc (.cells #[.int .i64 q.tos, .int .i64 q.id, .bool q.df, .bool q.mf, .int .i64 q.off, .int .i64 q.ttl, .int .i64 q.proto, .int .u32 q.src, .int .u32 q.dst, .slice Ao' q.opts.length co', .slice Ab' q.body.length cb'] 25)) w'
section
variable {p : Pk} {Ao : Option Addr} {co : Nat} {Ab : Option Addr} {cb : Nat} {q : Pk} {Ao' : Option Addr} {co' : Nat} {Ab' : Option Addr} {cb' : Nat} {w w' w'' : World}
theorem Bx2.start : Bx2 p Ao co Ab cb q Ao' co' Ab' cb' w ((w.alloc (.cells #[.int .i64 p.tos, .int .i64 p.id, .bool p.df, .bool p.mf, .int .i64 p.off, .int .i64 p.ttl, .int .i64 p.proto, .int .u32 p.src, .int .u32 p.dst, .slice Ao p.opts.length co, .slice Ab p.body.length cb] 25)).alloc (.cells #[.int .i64 q.tos, .int .i64 q.id, .bool q.df, .bool q.mf, .int .i64 q.off, .int .i64 q.ttl, .int .i64 q.proto, .int .u32 q.src, .int .u32 q.dst, .slice Ao' q.opts.length co', .slice Ab' q.body.length cb'] 25)) := Below.refl _ _
theorem Bx2.size (h : Bx2 p Ao co Ab cb q Ao' co' Ab' cb' w w') : w.heap.size + 2 ≤ w'.heap.size := by have := Below.size h; simpa using this
theorem Bx2.call (h : Bx2 p Ao co Ab cb q Ao' co' Ab' cb' w w') (hb : Below w'.heap.size w' w'') : Bx2 p Ao co Ab cb q Ao' co' Ab' cb' w w'' := Below.trans h (hb.mono h.size)
theorem Bx2.below (h : Bx2 p Ao co Ab cb q Ao' co' Ab' cb' w w') : Below w.heap.size w w' := (((Below.refl _ _).alloc (Nat.le_refl _) _).alloc (by simp) _).trans (Below.mono h (by omega))
theorem Bx2.cells (h : Bx2 p Ao co Ab cb q Ao' co' Ab' cb' w w') : w'.cell? ⟨w.heap.size, 0, none⟩ = some (.int .i64 p.tos) ∧ w'.cell? ⟨w.heap.size, 1, none⟩ = some (.int .i64 p.id) ∧ w'.cell? ⟨w.heap.size, 2, none⟩ = some (.bool p.df) ∧ w'.cell? ⟨w.heap.size, 3, none⟩ = some (.bool p.mf) ∧ w'.cell? ⟨w.heap.size, 4, none⟩ = some (.int .i64 p.off) ∧ w'.cell? ⟨w.heap.size, 5, none⟩ = some (.int .i64 p.ttl) ∧ w'.cell? ⟨w.heap.size, 6, none⟩ = some (.int .i64 p.proto) ∧ w'.cell? ⟨w.heap.size, 7, none⟩ = some (.int .u32 p.src) ∧ w'.cell? ⟨w.heap.size, 8, none⟩ = some (.int .u32 p.dst) ∧ w'.cell? ⟨w.heap.size, 9, none⟩ = some (.slice Ao p.opts.length co) ∧ w'.cell? ⟨w.heap.size, 10, none⟩ = some (.slice Ab p.body.length cb) ∧ w'.cell? ⟨w.heap.size + 1, 0, none⟩ = some (.int .i64 q.tos) ∧ w'.cell? ⟨w.heap.size + 1, 1, none⟩ = some (.int .i64 q.id) ∧ w'.cell? ⟨w.heap.size + 1, 2, none⟩ = some (.bool q.df) ∧ w'.cell? ⟨w.heap.size + 1, 3, none⟩ = some (.bool q.mf) ∧ w'.cell? ⟨w.heap.size + 1, 4, none⟩ = some (.int .i64 q.off) ∧ w'.cell? ⟨w.heap.size + 1, 5, none⟩ = some (.int .i64 q.ttl) ∧ w'.cell? ⟨w.heap.size + 1, 6, none⟩ = some (.int .i64 q.proto) ∧ w'.cell? ⟨w.heap.size + 1, 7, none⟩ = some (.int .u32 q.src) ∧ w'.cell? ⟨w.heap.size + 1, 8, none⟩ = some (.int .u32 q.dst) ∧ w'.cell? ⟨w.heap.size + 1, 9, none⟩ = some (.slice Ao' q.opts.length co') ∧ w'.cell? ⟨w.heap.size + 1, 10, none⟩ = some (.slice Ab' q.body.length cb') := by
  have h1 := fun (o : Nat) => Below.cell h (p := ⟨w.heap.size, o, none⟩) (by show w.heap.size < w.heap.size + 2; omega)
  have h2 := fun (o : Nat) => Below.cell h (p := ⟨w.heap.size + 1, o, none⟩) (by show w.heap.size + 1 < w.heap.size + 2; omega)
  refine ⟨?_, ?_, ?_, ?_, ?_, ?_, ?_, ?_, ?_, ?_, ?_, ?_, ?_, ?_, ?_, ?_, ?_, ?_, ?_, ?_, ?_, ?_⟩
  iterate 11 (· refine (h1 _).trans ?_; simp [go_sem])
  iterate 11 (· refine (h2 _).trans ?_; simp [go_sem])
end


theorem dn0 (w : World) : ∃ m, w = w.drewN m := ⟨0, rfl⟩
/-- what is put, and whether. -/
structure PutL (p : Pk) (L : List UInt8) (n : Nat) (r : Int) : Prop where
  len : L.length = n
  small : n ≤ 65535
  way : (mayB p = true ∧ L = putB p ∧ r = 0) ∨ (mayB p = false ∧ L = [] ∧ r = 1)
theorem putL (p : Pk) : ∃ L n r, PutL p L n r := by
  by_cases h : mayB p = true
  · have M := (mayB_iff p).1 h
    refine ⟨putB p, _, 0, rfl, ?_, .inl ⟨h, rfl, rfl⟩⟩
    have := M.fit; have := M.o0
    rw [putB_length]; omega
  · exact ⟨[], 0, 1, rfl, by omega, .inr ⟨by simpa using h, rfl, rfl⟩⟩
theorem cputU (p : Pk) (Ao : Option Addr) (co : Nat) (Ab : Option Addr) (cb : Nat) (L : List UInt8) (n : Nat) (r : Int) (hL : PutL p L n r) (w : World) (hr : Rng p) (ho : p.opts.length ≤ 16777216) (hb : p.body.length ≤ 16777216)
    (hAo : Bs w w.heap.size Ao p.opts) (hAb : Bs w w.heap.size Ab p.body) (hnil : Ab = none → cb = 0) :
    Calls Try.prog 10 #[pkV p Ao co Ab cb] w fun e w' => ∃ A c, e = .returned (.tuple #[.slice A n c, .int .i64 r]) ∧ Bs w' w'.heap.size A L ∧ Below w.heap.size w w' := by
  obtain ⟨h1, _, ⟨h, rfl, rfl⟩ | ⟨h, rfl, rfl⟩⟩ := hL
  · refine (cputN p Ao co Ab cb w n (by rw [← h1, putB_length]) ((mayB_iff p).1 h) hr hAo hAb hnil).mono ?_
    rintro e w' ⟨g, c, he, ho, hb⟩
    exact ⟨_, c, he, ho.bs, hb⟩
  · refine (cputNo p Ao co Ab cb w h ho hb).mono ?_
    rintro e w' ⟨he, hb⟩
    subst h1
    exact ⟨_, 0, he, Bs.nil_, hb⟩
theorem rputU (p : Pk) (Ao : Option Addr) (co : Nat) (Ab : Option Addr) (cb : Nat) (L : List UInt8) (n : Nat) (r : Int) (hL : PutL p L n r) (w : World) (hr : Rng p) (ho : p.opts.length ≤ 16777216) (hb : p.body.length ≤ 16777216)
    (hAo : Bs w w.heap.size Ao p.opts) (hnilo : Ao = none → co = 0) (hAb : Bs w w.heap.size Ab p.body) (hnil : Ab = none → cb = 0) :
    Calls Try.prog 11 #[pkV p Ao co Ab cb] w fun e w' => ∃ A c, e = .returned (.tuple #[.slice A n c, .int .i64 r]) ∧ Bs w' w'.heap.size A L ∧ Below w.heap.size w w' := by
  obtain ⟨h1, _, ⟨h, rfl, rfl⟩ | ⟨h, rfl, rfl⟩⟩ := hL
  · rw [putB_length] at h1
    subst h1
    refine (rputYes p Ao co Ab cb w ((mayB_iff p).1 h) hr.s0 hr.s1 hr.d0 hr.d1 hAo hnilo hAb hnil).mono ?_
    rintro e w' ⟨g, c, he, ho, hb⟩
    exact ⟨_, c, he, ho.bs, hb⟩
  · refine (rputNo p Ao co Ab cb w h ho hb).mono ?_
    rintro e w' ⟨he, hb⟩
    subst h1
    exact ⟨_, 0, he, Bs.nil_, hb⟩
/-- ip's Same where its answer has a name. -/
theorem csameS (p q : Pk) (Ao : Option Addr) (co : Nat) (Ab : Option Addr) (cb : Nat) (Ao' : Option Addr) (co' : Nat) (Ab' : Option Addr) (cb' : Nat) (s : Bool) (hs : sameB p q = s) (B : Nat) (W X : World) (hB : B ≤ W.heap.size)
    (ho : Bs W B Ao p.opts) (hb : Bs W B Ab p.body) (ho' : Bs W B Ao' q.opts) (hb' : Bs W B Ab' q.body) (x : Below W.heap.size W X) :
    Calls Try.prog 13 #[pkV p Ao co Ab cb, pkV q Ao' co' Ab' cb'] X fun e w' => e = .returned (.bool s) ∧ Below W.heap.size W w' := by
  have hX := Nat.le_trans hB x.size
  have x' := x.mono hB
  refine (csameP p q Ao co Ab cb Ao' co' Ab' cb' X ((ho.below x').more hX) ((hb.below x').more hX) ((ho'.below x').more hX) ((hb'.below x').more hX)).mono ?_
  rintro e w' ⟨he, hw⟩
  exact ⟨by rw [he, hs], x.trans (hw.mono x.size)⟩
theorem csameE (p q : Pk) (Ao : Option Addr) (co : Nat) (Ab : Option Addr) (cb : Nat) (Ao' : Option Addr) (co' : Nat) (Ab' : Option Addr) (cb' : Nat) (s : Bool) (hs : sameB p q = s) (B : Nat) (W X : World) (hB : B ≤ W.heap.size)
    (ho : Bs W B Ao p.opts) (hb : Bs W B Ab p.body) (ho' : Bs W B Ao' q.opts) (hb' : Bs W B Ab' q.body) (x : Below W.heap.size W X) (v : Value) (hv : pkV p Ao co Ab cb = v) :
    Calls Try.prog 13 #[v, pkV q Ao' co' Ab' cb'] X fun e w' => e = .returned (.bool s) ∧ Below W.heap.size W w' :=
  hv ▸ csameS p q Ao co Ab cb Ao' co' Ab' cb' s hs B W X hB ho hb ho' hb' x
theorem cpieceS (p : Pk) (Ao : Option Addr) (co : Nat) (Ab : Option Addr) (cb : Nat) (s : Bool) (hs : (p.mf || (p.off != 0)) = s) (W X : World) (x : Below W.heap.size W X) :
    Calls Try.prog 14 #[pkV p Ao co Ab cb] X fun e w' => e = .returned (.bool s) ∧ Below W.heap.size W w' := by
  refine (cpiece p Ao co Ab cb X).mono ?_
  rintro e w' ⟨he, hw⟩
  exact ⟨by rw [he, hs], x.trans (hw.mono x.size)⟩
theorem cpieceE (p : Pk) (Ao : Option Addr) (co : Nat) (Ab : Option Addr) (cb : Nat) (s : Bool) (hs : (p.mf || (p.off != 0)) = s) (W X : World) (x : Below W.heap.size W X) (v : Value) (hv : pkV p Ao co Ab cb = v) :
    Calls Try.prog 14 #[v] X fun e w' => e = .returned (.bool s) ∧ Below W.heap.size W w' := hv ▸ cpieceS p Ao co Ab cb s hs W X x


set_option maxRecDepth 100000 in
set_option maxHeartbeats 40000000 in
theorem puts (p : Pk) (Ao : Option Addr) (co : Nat) (Ab : Option Addr) (cb : Nat) (q : Pk) (Ao' : Option Addr) (co' : Nat) (Ab' : Option Addr) (cb' : Nat) (w : World) (h : PkIn w p Ao co Ab cb) (h' : PkIn w q Ao' co' Ab' cb') :
    Calls Try.prog 3 #[pkV p Ao co Ab cb, pkV q Ao' co' Ab' cb'] w fun e w' => e = .returned (.bool true) ∧ Below w.heap.size w w' := by
  have HI := Go.Lib.hid h
  have HJ := Go.Lib.hid h'
  obtain ⟨L, n, r, hL⟩ := putL p
  have hn := hL.small
  have HL := Go.Lib.hid hL
  clear h h' hL
  go_enter Try.func3, Try.ntmps3
  go_wp2_with fail
  refine (awake _).mono ?_
  rintro e w1 ⟨rfl, hb1⟩
  dsimp only
  have x1 := (Bx2.start (p := p) (Ao := Ao) (co := co) (Ab := Ab) (cb := cb) (q := q) (Ao' := Ao') (co' := co') (Ab' := Ab') (cb' := cb') (w := w)).call hb1
  clear hb1
  obtain ⟨c0, c1, c2, c3, c4, c5, c6, c7, c8, c9, c10, d0, d1, d2, d3, d4, d5, d6, d7, d8, d9, d10⟩ := x1.cells
  by_cases hS : p.opts.length ≤ 100 ∧ p.body.length ≤ 3000
  · obtain ⟨s1, s2⟩ := hS
    go_wp2_with fail
    refine (rshortF p Ao co Ab cb true (by simp [s1, s2]) _).mono ?_
    rintro e w2 ⟨rfl, hb2⟩
    dsimp only
    have x2 := x1.call hb2
    clear hb2 x1 c0 c1 c2 c3 c4 c5 c6 c7 c8 c9 c10 d0 d1 d2 d3 d4 d5 d6 d7 d8 d9 d10
    obtain ⟨c0, c1, c2, c3, c4, c5, c6, c7, c8, c9, c10, d0, d1, d2, d3, d4, d5, d6, d7, d8, d9, d10⟩ := x2.cells
    by_cases hS : q.opts.length ≤ 100 ∧ q.body.length ≤ 3000
    · obtain ⟨s3, s4⟩ := hS
      go_wp2_with fail
      refine (rshortF q Ao' co' Ab' cb' true (by simp [s3, s4]) _).mono ?_
      rintro e w3 ⟨rfl, hb3⟩
      dsimp only
      have x3 := x2.call hb3
      clear hb3 x2 c0 c1 c2 c3 c4 c5 c6 c7 c8 c9 c10 d0 d1 d2 d3 d4 d5 d6 d7 d8 d9 d10
      obtain ⟨c0, c1, c2, c3, c4, c5, c6, c7, c8, c9, c10, d0, d1, d2, d3, d4, d5, d6, d7, d8, d9, d10⟩ := x3.cells
      go_wp2_with fail
      refine (cputU p Ao co Ab cb L n r HL.out _ HI.out.rng (by omega) (by omega) ((HI.out.obs.below x3.below).more x3.below.size) ((HI.out.bbs.below x3.below).more x3.below.size) HI.out.bnil).mono ?_
      rintro e w4 ⟨A1, k1, rfl, hB1, hb4⟩
      dsimp only
      have x4 := x3.call hb4
      have HB1 := Go.Lib.hid hB1
      clear hb4 x3 hB1 c0 c1 c2 c3 c4 c5 c6 c7 c8 c9 c10 d0 d1 d2 d3 d4 d5 d6 d7 d8 d9 d10
      obtain ⟨c0, c1, c2, c3, c4, c5, c6, c7, c8, c9, c10, d0, d1, d2, d3, d4, d5, d6, d7, d8, d9, d10⟩ := x4.cells
      obtain ⟨s, hs⟩ : ∃ s : Bool, sameB p q = s := ⟨_, rfl⟩
      have HS := Go.Lib.hid hs
      clear hs
      go_wp2_with fail
      refine (rputU p Ao co Ab cb L n r HL.out _ HI.out.rng (by omega) (by omega) ((HI.out.obs.below x4.below).more x4.below.size) HI.out.onil ((HI.out.bbs.below x4.below).more x4.below.size) HI.out.bnil).mono ?_
      rintro e w5 ⟨A2, k2, rfl, hB2, hb5⟩
      dsimp only
      have x5 := x4.call hb5
      have HB2 := Go.Lib.hid hB2
      have HB3 := Go.Lib.hid ((HB1.out.below hb5).more hb5.size)
      clear hb5 x4 hB2 c0 c1 c2 c3 c4 c5 c6 c7 c8 c9 c10 d0 d1 d2 d3 d4 d5 d6 d7 d8 d9 d10
      obtain ⟨c0, c1, c2, c3, c4, c5, c6, c7, c8, c9, c10, d0, d1, d2, d3, d4, d5, d6, d7, d8, d9, d10⟩ := x5.cells
      have y5 := x5.below
      have G1 := Go.Lib.hid (HI.out.obs.below y5)
      have G2 := Go.Lib.hid (HI.out.bbs.below y5)
      have G3 := Go.Lib.hid (HJ.out.obs.below y5)
      have G4 := Go.Lib.hid (HJ.out.bbs.below y5)
      have l1 : p.opts.length ≤ 16777216 := by omega
      have l2 : p.body.length ≤ 16777216 := by omega
      have l3 : q.opts.length ≤ 16777216 := by omega
      have l4 : q.body.length ≤ 16777216 := by omega
      go_upto_region 7 with fail
      go_cut [9] (fun b wx => b = .bool (sameB p q) ∧ ∃ m, wx = w5.drewN m)
      case first =>
        go_wp2_with (first
          | (go_at_call_of 12 (Value.slice Ao p.opts.length co); refine (rsame Ao _ co p.opts Ao' _ co' q.opts w.heap.size w.heap.size _ rfl rfl G1.out G3.out l1 l3).mono ?_; rintro e w6 ⟨rfl, m1, rfl⟩; dsimp only)
          | (go_at_call_of 12 (Value.slice Ab p.body.length cb); refine (rsame Ab _ cb p.body Ab' _ cb' q.body w.heap.size w.heap.size _ rfl rfl (G2.out.drewN _) (G4.out.drewN _) l2 l4).mono ?_; rintro e w7 ⟨rfl, m2, rfl⟩; dsimp only))
        all_goals (go_meet; refine ⟨congrArg Value.bool ?_, (by first | exact dn0 _ | exact ⟨_, rfl⟩)⟩)
        all_goals (unfold sameB; simp [*]; done)
      case rest =>
        obtain ⟨rfl, m, rfl⟩ := hcut
        have x6 : Bx2 p Ao co Ab cb q Ao' co' Ab' cb' w (w5.drewN m) := below_dn x5 m
        have HB4 : Hid (Bs (w5.drewN m) (w5.drewN m).heap.size A2 L) := Go.Lib.hid (HB2.out.drewN m)
        have HB5 : Hid (Bs (w5.drewN m) (w5.drewN m).heap.size A1 L) := Go.Lib.hid (HB3.out.drewN m)
        clear x5 HB2 HB3 G1 G2 G3 G4 c0 c1 c2 c3 c4 c5 c6 c7 c8 c9 c10 d0 d1 d2 d3 d4 d5 d6 d7 d8 d9 d10 y5
        generalize w5.drewN m = w6 at *
        have y6 := x6.below
        have hwz : w.heap.size ≤ w6.heap.size := y6.size
        have G1 := Go.Lib.hid (HI.out.obs.below y6)
        have G2 := Go.Lib.hid (HI.out.bbs.below y6)
        have G3 := Go.Lib.hid (HJ.out.obs.below y6)
        have G4 := Go.Lib.hid (HJ.out.bbs.below y6)
        generalize hs : sameB p q = s
        have HS := Go.Lib.hid hs
        have ts : (s == s) = true := by simp
        have tr : (r == r) = true := by simp
        have HL0 : Hid (L.length = n) := Go.Lib.hid HL.out.len
        have HLL : Hid ((L == L) = true) := Go.Lib.hid (by simp)
        have j1 : n ≤ 16777216 := by omega
        obtain ⟨vm, hvm⟩ : ∃ vm : Bool, p.mf = vm := ⟨_, rfl⟩
        have HVM := Go.Lib.hid hvm
        have K : ∀ Y, Below w6.heap.size w6 Y → Y.cell? ⟨w.heap.size, 0, none⟩ = some (.int .i64 p.tos) ∧ Y.cell? ⟨w.heap.size, 1, none⟩ = some (.int .i64 p.id) ∧ Y.cell? ⟨w.heap.size, 2, none⟩ = some (.bool p.df) ∧ Y.cell? ⟨w.heap.size, 3, none⟩ = some (.bool vm) ∧ Y.cell? ⟨w.heap.size, 4, none⟩ = some (.int .i64 p.off) ∧ Y.cell? ⟨w.heap.size, 5, none⟩ = some (.int .i64 p.ttl) ∧ Y.cell? ⟨w.heap.size, 6, none⟩ = some (.int .i64 p.proto) ∧ Y.cell? ⟨w.heap.size, 7, none⟩ = some (.int .u32 p.src) ∧ Y.cell? ⟨w.heap.size, 8, none⟩ = some (.int .u32 p.dst) ∧ Y.cell? ⟨w.heap.size, 9, none⟩ = some (.slice Ao p.opts.length co) ∧ Y.cell? ⟨w.heap.size, 10, none⟩ = some (.slice Ab p.body.length cb) ∧ Y.cell? ⟨w.heap.size + 1, 0, none⟩ = some (.int .i64 q.tos) ∧ Y.cell? ⟨w.heap.size + 1, 1, none⟩ = some (.int .i64 q.id) ∧ Y.cell? ⟨w.heap.size + 1, 2, none⟩ = some (.bool q.df) ∧ Y.cell? ⟨w.heap.size + 1, 3, none⟩ = some (.bool q.mf) ∧ Y.cell? ⟨w.heap.size + 1, 4, none⟩ = some (.int .i64 q.off) ∧ Y.cell? ⟨w.heap.size + 1, 5, none⟩ = some (.int .i64 q.ttl) ∧ Y.cell? ⟨w.heap.size + 1, 6, none⟩ = some (.int .i64 q.proto) ∧ Y.cell? ⟨w.heap.size + 1, 7, none⟩ = some (.int .u32 q.src) ∧ Y.cell? ⟨w.heap.size + 1, 8, none⟩ = some (.int .u32 q.dst) ∧ Y.cell? ⟨w.heap.size + 1, 9, none⟩ = some (.slice Ao' q.opts.length co') ∧ Y.cell? ⟨w.heap.size + 1, 10, none⟩ = some (.slice Ab' q.body.length cb') ∧ Below w6.heap.size w6 Y := fun Y y => by
          obtain ⟨c0, c1, c2, c3, c4, c5, c6, c7, c8, c9, c10, d0, d1, d2, d3, d4, d5, d6, d7, d8, d9, d10⟩ := (x6.call y).cells
          rw [hvm] at c3
          exact ⟨c0, c1, c2, c3, c4, c5, c6, c7, c8, c9, c10, d0, d1, d2, d3, d4, d5, d6, d7, d8, d9, d10, y⟩
        clear hs
        have hw : (vm = true) ∨ (vm = false ∧ (p.off != 0) = true) ∨ (vm = false ∧ (p.off != 0) = false) := by cases vm <;> cases (p.off != 0) <;> simp
        obtain ⟨v, hv⟩ : ∃ v : Bool, (vm || (p.off != 0)) = v := ⟨_, rfl⟩
        have HV : Hid ((p.mf || (p.off != 0)) = v) := Go.Lib.hid (by rw [hvm]; exact hv)
        clear hvm
        rcases hw with rfl | ⟨rfl, tf⟩ | ⟨rfl, tf⟩
        · have tv : v = true := by rw [← hv]; rfl
          subst tv
          clear hv
          obtain ⟨c0, c1, c2, c3, c4, c5, c6, c7, c8, c9, c10, d0, d1, d2, d3, d4, d5, d6, d7, d8, d9, d10, _⟩ := K w6 (Below.refl _ _)
          go_upto_region 8 with fail
          first | (go_region_with (first | (go_at_call 12; refine (rsame_x A1 n k1 L A2 n k2 L w6.heap.size w6.heap.size w6 _ true HLL.out HL0.out HL0.out HB5.out (Nat.le_refl _) HB4.out (Nat.le_refl _) j1 j1 (by repeat (with_reducible first | assumption | exact Below.refl _ _ | refine below_drew ?_ | refine below_dn ?_ _))).mono ?_; rintro e w7 ⟨rfl, m1, rfl⟩; dsimp only) | (go_at_call 13; refine (csameE p q Ao co Ab cb Ao' co' Ab' cb' s HS.out w.heap.size w6 _ hwz G1.out G2.out G3.out G4.out (by repeat (with_reducible first | assumption | exact Below.refl _ _ | refine below_drew ?_ | refine below_dn ?_ _)) _ (by show pkV p Ao co Ab cb = _; rw [pkV, HVM.out])).mono ?_; rintro e w8 ⟨rfl, x8⟩; obtain ⟨c0, c1, c2, c3, c4, c5, c6, c7, c8, c9, c10, d0, d1, d2, d3, d4, d5, d6, d7, d8, d9, d10, _⟩ := K _ x8; dsimp only) | (go_at_call 14; refine (cpieceE p Ao co Ab cb _ HV.out w6 _ (by repeat (with_reducible first | assumption | exact Below.refl _ _ | refine below_drew ?_ | refine below_dn ?_ _)) _ (by show pkV p Ao co Ab cb = _; rw [pkV, HVM.out])).mono ?_; rintro e w9 ⟨rfl, x9⟩; obtain ⟨c0, c1, c2, c3, c4, c5, c6, c7, c8, c9, c10, d0, d1, d2, d3, d4, d5, d6, d7, d8, d9, d10, _⟩ := K _ x9; dsimp only))) | fail "go_region_with (first | (go_at_call 12; refine (rsame_x A1 n k1 L A2 n k2 L w6.heap.size w6.heap.size w6 _ true HLL.out HL0.out HL0.out HB5.out (Nat.le_refl _) HB4.out (Nat.le_refl _) j1 j1 (by repeat (with_reducible first | assumption | exact Below.refl _ _ | refine below_drew ?_ | refine below_dn ?_ _))).mono ?_; rintro e w7 ⟨rfl, m1, rfl⟩; dsimp only) | (go_at_call 13; refine (csameE p q Ao co Ab cb Ao' co' Ab' cb' s HS.out w.heap.size w6 _ hwz G1.out G2.out G3.out G4.out (by repeat (with_reducible first | assumption | exact Below.refl _ _ | refine below_drew ?_ | refine below_dn ?_ _)) _ (by show pkV p Ao co Ab cb = _; rw [pkV, HVM.out])).mono ?_; rintro e w8 ⟨rfl, x8⟩; obtain ⟨c0, c1, c2, c3, c4, c5, c6, c7, c8, c9, c10, d0, d1, d2, d3, d4, d5, d6, d7, d8, d9, d10, _⟩ := K _ x8; dsimp only) | (go_at_call 14; refine (cpieceE p Ao co Ab cb _ HV.out w6 _ (by repeat (with_reducible first | assumption | exact Below.refl _ _ | refine below_drew ?_ | refine below_dn ?_ _)) _ (by show pkV p Ao co Ab cb = _; rw [pkV, HVM.out])).mono ?_; rintro e w9 ⟨rfl, x9⟩; obtain ⟨c0, c1, c2, c3, c4, c5, c6, c7, c8, c9, c10, d0, d1, d2, d3, d4, d5, d6, d7, d8, d9, d10, _⟩ := K _ x9; dsimp only))"
          all_goals
            have yF := y6.trans (Below.mono (by repeat (with_reducible first | assumption | exact Below.refl _ _ | refine below_drew ?_ | refine below_dn ?_ _)) y6.size)
            clear c0 c1 c2 c3 c4 c5 c6 c7 c8 c9 c10 d0 d1 d2 d3 d4 d5 d6 d7 d8 d9 d10
            go_wp2
            go_ret
            exact ⟨rfl, yF⟩
        all_goals
          first
            | (have tv : v = true := by rw [← hv, tf]; rfl)
            | (have tv : v = false := by rw [← hv, tf]; rfl)
          subst tv
          clear hv
          go_upto_region 8 with fail
          try simp only [List.append_eq, List.cons_append, List.nil_append]
          go_region_held3 (fun Y => Y.cell? ⟨w.heap.size, 0, none⟩ = some (.int .i64 p.tos) ∧ Y.cell? ⟨w.heap.size, 1, none⟩ = some (.int .i64 p.id) ∧ Y.cell? ⟨w.heap.size, 2, none⟩ = some (.bool p.df) ∧ Y.cell? ⟨w.heap.size, 3, none⟩ = some (.bool false) ∧ Y.cell? ⟨w.heap.size, 4, none⟩ = some (.int .i64 p.off) ∧ Y.cell? ⟨w.heap.size, 5, none⟩ = some (.int .i64 p.ttl) ∧ Y.cell? ⟨w.heap.size, 6, none⟩ = some (.int .i64 p.proto) ∧ Y.cell? ⟨w.heap.size, 7, none⟩ = some (.int .u32 p.src) ∧ Y.cell? ⟨w.heap.size, 8, none⟩ = some (.int .u32 p.dst) ∧ Y.cell? ⟨w.heap.size, 9, none⟩ = some (.slice Ao p.opts.length co) ∧ Y.cell? ⟨w.heap.size, 10, none⟩ = some (.slice Ab p.body.length cb) ∧ Y.cell? ⟨w.heap.size + 1, 0, none⟩ = some (.int .i64 q.tos) ∧ Y.cell? ⟨w.heap.size + 1, 1, none⟩ = some (.int .i64 q.id) ∧ Y.cell? ⟨w.heap.size + 1, 2, none⟩ = some (.bool q.df) ∧ Y.cell? ⟨w.heap.size + 1, 3, none⟩ = some (.bool q.mf) ∧ Y.cell? ⟨w.heap.size + 1, 4, none⟩ = some (.int .i64 q.off) ∧ Y.cell? ⟨w.heap.size + 1, 5, none⟩ = some (.int .i64 q.ttl) ∧ Y.cell? ⟨w.heap.size + 1, 6, none⟩ = some (.int .i64 q.proto) ∧ Y.cell? ⟨w.heap.size + 1, 7, none⟩ = some (.int .u32 q.src) ∧ Y.cell? ⟨w.heap.size + 1, 8, none⟩ = some (.int .u32 q.dst) ∧ Y.cell? ⟨w.heap.size + 1, 9, none⟩ = some (.slice Ao' q.opts.length co') ∧ Y.cell? ⟨w.heap.size + 1, 10, none⟩ = some (.slice Ab' q.body.length cb') ∧ Below w6.heap.size w6 Y) (exact K _ (by repeat (with_reducible first | assumption | exact Below.refl _ _ | refine below_drew ?_ | refine below_dn ?_ _))) (first | (go_at_call 12; refine (rsame_x A1 n k1 L A2 n k2 L w6.heap.size w6.heap.size w6 _ true HLL.out HL0.out HL0.out HB5.out (Nat.le_refl _) HB4.out (Nat.le_refl _) j1 j1 (by repeat (with_reducible first | assumption | exact Below.refl _ _ | refine below_drew ?_ | refine below_dn ?_ _))).mono ?_; rintro e w7 ⟨rfl, m1, rfl⟩; dsimp only) | (go_at_call 13; refine (csameE p q Ao co Ab cb Ao' co' Ab' cb' s HS.out w.heap.size w6 _ hwz G1.out G2.out G3.out G4.out (by repeat (with_reducible first | assumption | exact Below.refl _ _ | refine below_drew ?_ | refine below_dn ?_ _)) _ (by show pkV p Ao co Ab cb = _; rw [pkV, HVM.out])).mono ?_; rintro e w8 ⟨rfl, x8⟩; dsimp only) | (go_at_call 14; refine (cpieceE p Ao co Ab cb _ HV.out w6 _ (by repeat (with_reducible first | assumption | exact Below.refl _ _ | refine below_drew ?_ | refine below_dn ?_ _)) _ (by show pkV p Ao co Ab cb = _; rw [pkV, HVM.out])).mono ?_; rintro e w9 ⟨rfl, x9⟩; dsimp only))
          all_goals
            have yF := y6.trans (Below.mono (by repeat (with_reducible first | assumption | exact Below.refl _ _ | refine below_drew ?_ | refine below_dn ?_ _)) y6.size)
            go_wp2
            go_ret
            exact ⟨rfl, yF⟩
    · have hS' : (decide (q.opts.length ≤ 100) && decide (q.body.length ≤ 3000)) = false := by
        rw [Bool.and_eq_false_iff, decide_eq_false_iff_not, decide_eq_false_iff_not]; omega
      clear hS
      go_wp2_with fail
      refine (rshortF q Ao' co' Ab' cb' false hS' _).mono ?_
      rintro e w3 ⟨rfl, hb3⟩
      dsimp only
      have x3 := x2.call hb3
      clear hb3 x2 c0 c1 c2 c3 c4 c5 c6 c7 c8 c9 c10 d0 d1 d2 d3 d4 d5 d6 d7 d8 d9 d10
      go_wp2
      go_ret
      exact ⟨rfl, x3.below⟩
  · have hS' : (decide (p.opts.length ≤ 100) && decide (p.body.length ≤ 3000)) = false := by
      rw [Bool.and_eq_false_iff, decide_eq_false_iff_not, decide_eq_false_iff_not]; omega
    clear hS
    go_wp2_with fail
    refine (rshortF p Ao co Ab cb false hS' _).mono ?_
    rintro e w2 ⟨rfl, hb2⟩
    dsimp only
    have x2 := x1.call hb2
    clear hb2 x1 c0 c1 c2 c3 c4 c5 c6 c7 c8 c9 c10 d0 d1 d2 d3 d4 d5 d6 d7 d8 d9 d10
    go_wp2
    go_ret
    exact ⟨rfl, x2.below⟩
end Go.Proofs.Ytdbidhabpomlgaa
