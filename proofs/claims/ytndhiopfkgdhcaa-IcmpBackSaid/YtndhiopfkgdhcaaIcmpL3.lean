/- Statements of layer 6, walked: what is put is parsed as it was; what is parsed is put as it was; an error that is told of a packet is about that one. -/
import Derived.Deep.RegionHeld3
import Derived.Deep.DeepCutAuto
import Derived.Deep.CutBlock
import Derived.Test.YtndhiopfkgdhcaaIcmpL5
import Derived.Test.YtndhiopfkgdhcaaIcmpA8
import Derived.Test.YtndhiopfkgdhcaaIpK
import Derived.Test.YtndhiopfkgdhcaaIpB0
import Derived.Test.YtndhiopfkgdhcaaIpC
import Derived.Test.YtndhiopfkgdhcaaIpOpen
namespace Go.Proofs.Ytndhiopfkgdhcaa
open Go.ChangeShapes Go.WideShapes Go.ChangeAt Go.RowKit
set_option linter.unusedVariables false
set_option linter.unusedSimpArgs false

/-- a boxed message, and a boxed packet behind it. -/
structure Bk (m : Ic) (Ab : Option Addr) (cb : Nat) (p : Pk) (Ao : Option Addr) (co : Nat) (Bb : Option Addr) (db : Nat) (w w' : World) : Prop where
  b : Below (w.heap.size + 2) ((w.alloc (icO m Ab cb)).alloc (.cells #[.int .i64 p.tos, .int .i64 p.id, .bool p.df, .bool p.mf, .int .i64 p.off, .int .i64 p.ttl, .int .i64 p.proto, .int .u32 p.src, .int .u32 p.dst, .slice Ao p.opts.length co, .slice Bb p.body.length db] 43)) w'
section
variable {m : Ic} {Ab : Option Addr} {cb : Nat} {p : Pk} {Ao : Option Addr} {co : Nat} {Bb : Option Addr} {db : Nat} {w w' w'' : World}
theorem Bk.start : Bk m Ab cb p Ao co Bb db w ((w.alloc (icO m Ab cb)).alloc (.cells #[.int .i64 p.tos, .int .i64 p.id, .bool p.df, .bool p.mf, .int .i64 p.off, .int .i64 p.ttl, .int .i64 p.proto, .int .u32 p.src, .int .u32 p.dst, .slice Ao p.opts.length co, .slice Bb p.body.length db] 43)) := ⟨Below.refl _ _⟩
theorem Bk.size (h : Bk m Ab cb p Ao co Bb db w w') : w.heap.size + 2 ≤ w'.heap.size := by have := h.b.size; simpa using this
theorem Bk.call (h : Bk m Ab cb p Ao co Bb db w w') (hb : Below w'.heap.size w' w'') : Bk m Ab cb p Ao co Bb db w w'' := ⟨h.b.trans (hb.mono h.size)⟩
theorem Bk.below (h : Bk m Ab cb p Ao co Bb db w w') : Below w.heap.size w w' := (((Below.refl _ _).alloc (Nat.le_refl _) _).alloc (by simp) _).trans (h.b.mono (by omega))
theorem Bk.cells (h : Bk m Ab cb p Ao co Bb db w w') : w'.cell? ⟨w.heap.size, 0, none⟩ = some (.int .i64 m.type) ∧ w'.cell? ⟨w.heap.size, 1, none⟩ = some (.int .i64 m.code) ∧ w'.cell? ⟨w.heap.size, 2, none⟩ = some (.int .u32 m.rest) ∧ w'.cell? ⟨w.heap.size, 3, none⟩ = some (.slice Ab m.body.length cb) ∧ w'.cell? ⟨w.heap.size + 1, 0, none⟩ = some (.int .i64 p.tos) ∧ w'.cell? ⟨w.heap.size + 1, 1, none⟩ = some (.int .i64 p.id) ∧ w'.cell? ⟨w.heap.size + 1, 2, none⟩ = some (.bool p.df) ∧ w'.cell? ⟨w.heap.size + 1, 3, none⟩ = some (.bool p.mf) ∧ w'.cell? ⟨w.heap.size + 1, 4, none⟩ = some (.int .i64 p.off) ∧ w'.cell? ⟨w.heap.size + 1, 5, none⟩ = some (.int .i64 p.ttl) ∧ w'.cell? ⟨w.heap.size + 1, 6, none⟩ = some (.int .i64 p.proto) ∧ w'.cell? ⟨w.heap.size + 1, 7, none⟩ = some (.int .u32 p.src) ∧ w'.cell? ⟨w.heap.size + 1, 8, none⟩ = some (.int .u32 p.dst) ∧ w'.cell? ⟨w.heap.size + 1, 9, none⟩ = some (.slice Ao p.opts.length co) ∧ w'.cell? ⟨w.heap.size + 1, 10, none⟩ = some (.slice Bb p.body.length db) := by
  have m1 : icIs ((w.alloc (icO m Ab cb)).alloc (.cells #[.int .i64 p.tos, .int .i64 p.id, .bool p.df, .bool p.mf, .int .i64 p.off, .int .i64 p.ttl, .int .i64 p.proto, .int .u32 p.src, .int .u32 p.dst, .slice Ao p.opts.length co, .slice Bb p.body.length db] 43)) w.heap.size m Ab cb := icIs.call icIs.made ((Below.refl _ _).alloc (Nat.le_refl _) _) (by simp)
  obtain ⟨c0, c1, c2, c3⟩ := (m1.keep h.b (by omega)).cells
  have hc := fun (o : Nat) => h.b.cell (p := ⟨w.heap.size + 1, o, none⟩) (Nat.lt_succ_self _)
  refine ⟨c0, c1, c2, c3, ?_, ?_, ?_, ?_, ?_, ?_, ?_, ?_, ?_, ?_, ?_⟩ <;> (refine (hc _).trans ?_; simp [go_sem])
end
theorem rshortF (p : Pk) (Ao : Option Addr) (co : Nat) (Ab : Option Addr) (cb : Nat) (b : Bool) (h : (decide (p.opts.length ≤ 100) && decide (p.body.length ≤ 3000)) = b) (w : World) :
    Calls Try.prog 26 #[pkV p Ao co Ab cb] w fun e w' => e = .returned (.bool b) ∧ Below w.heap.size w w' := h ▸ rshort p Ao co Ab cb w
theorem cputN (p : Pk) (Ao : Option Addr) (co : Nat) (Ab : Option Addr) (cb : Nat) (w : World) (n : Nat) (hn : n = 20 + p.opts.length + p.body.length) (hM : May p) (hr : Rng p)
    (hAo : Bs w w.heap.size Ao p.opts) (hAb : Bs w w.heap.size Ab p.body) (hnil : Ab = none → cb = 0) :
    Calls Try.prog 27 #[pkV p Ao co Ab cb] w fun e w' => ∃ g c, e = .returned (.tuple #[.slice (some ⟨g, 0, none⟩) n c, .int .i64 0]) ∧ Own w' w.heap.size g n c (putB p) ∧ Below w.heap.size w w' := by
  subst hn
  exact cputYes p Ao co Ab cb w hM hr.s0 hr.s1 hr.d0 hr.d1 hAo hAb hnil
theorem isame_one (m : Ic) (Ab : Option Addr) (cb : Nat) (Ab' : Option Addr) (cb' : Nat) (w : World) (h : Bs w w.heap.size Ab m.body) (h' : Bs w w.heap.size Ab' m.body) :
    Calls Try.prog 12 #[icV m Ab cb, icV m Ab' cb'] w fun e w' => e = .returned (.bool true) ∧ Below w.heap.size w w' :=
  isameI_v m Ab cb m Ab' cb' w.heap.size w (Nat.le_refl _) h h' true ((sameI_iff m m).2 rfl)
theorem csame_one (p : Pk) (Ao : Option Addr) (co : Nat) (Ab : Option Addr) (cb : Nat) (Ao' : Option Addr) (co' : Nat) (Ab' : Option Addr) (cb' : Nat) (w : World)
    (ho : Bs w w.heap.size Ao p.opts) (hb : Bs w w.heap.size Ab p.body) (ho' : Bs w w.heap.size Ao' p.opts) (hb' : Bs w w.heap.size Ab' p.body) :
    Calls Try.prog 28 #[pkV p Ao co Ab cb, pkV p Ao' co' Ab' cb'] w fun e w' => e = .returned (.bool true) ∧ Below w.heap.size w w' := by
  have := csameP p p Ao co Ab cb Ao' co' Ab' cb' w ho hb ho' hb'
  rwa [(sameB_iff p p).2 rfl] at this
/-- what Put has, with its room. -/
theorem iputK (m : Ic) (Ab : Option Addr) (cb : Nat) (L : List UInt8) (n : Nat) (r : Int) (hL : PutIL m L n r) (w : World) (hI : IcIn w w.heap.size m Ab cb) (hbl : m.body.length ≤ 16777216) :
    Calls Try.prog 9 #[icV m Ab cb] w fun e w' => ∃ A c, e = .returned (.tuple #[.slice A n c, .int .i64 r]) ∧ Bs w' w'.heap.size A L ∧ Below w.heap.size w w' ∧ n ≤ c ∧ c ≤ 9223372036854775807 := by
  by_cases hm : MayI m
  · obtain ⟨rfl, hn, rfl⟩ := hL.yes hm
    refine (iputYes m Ab cb w hm hI n hn).mono ?_
    rintro e w' ⟨g, c, rfl, ho, hb⟩
    have hc := ho.cap
    unfold maxLen at hc
    exact ⟨_, c, rfl, ho.bs, hb, hc.1, by omega⟩
  · obtain ⟨rfl, rfl, rfl⟩ := hL.no hm
    refine (iputNo m Ab cb w hm hbl).mono ?_
    rintro e w' ⟨rfl, hb⟩
    exact ⟨none, 0, rfl, Bs.nil_, hb, by omega, by omega⟩
theorem csame_E (p : Pk) (Ao : Option Addr) (co : Nat) (Ab : Option Addr) (cb : Nat) (Ao' : Option Addr) (co' : Nat) (Ab' : Option Addr) (cb' : Nat) (w : World)
    (ho : Bs w w.heap.size Ao p.opts) (hb : Bs w w.heap.size Ab p.body) (ho' : Bs w w.heap.size Ao' p.opts) (hb' : Bs w w.heap.size Ab' p.body) (v : Value) (hv : pkV p Ao' co' Ab' cb' = v) :
    Calls Try.prog 28 #[pkV p Ao co Ab cb, v] w fun e w' => e = .returned (.bool true) ∧ Below w.heap.size w w' := hv ▸ csame_one p Ao co Ab cb Ao' co' Ab' cb' w ho hb ho' hb'
theorem c11_frozen (w : World) (v0 v1 v2 v3 v4 v5 v6 v7 v8 v9 v10 : Value) (k : Nat) : (w.alloc (.cells #[v0, v1, v2, v3, v4, v5, v6, v7, v8, v9, v10] 43)).frozen? ⟨w.heap.size, k, none⟩ = false := by simp [go_sem]
theorem alloc_lt (w : World) (o : Obj) : w.heap.size < (w.alloc o).heap.size := by simp
theorem set_lt {w : World} {n : Nat} (p : Addr) (u : Value) (h : n < w.heap.size) : n < (w.setCell p u).heap.size := by simpa using h
theorem prsI_long {l : List UInt8} (h : (prsI l).1 = 0) : 8 ≤ l.length := by
  unfold prsI at h
  split at h
  · cases h
  · omega

set_option maxRecDepth 100000 in
set_option maxHeartbeats 16000000 in
theorem backI (m : Ic) (Ab : Option Addr) (cb : Nat) (A : Option Addr) (cp : Nat) (l : List UInt8) (p : Pk) (Ao : Option Addr) (co : Nat) (Bb : Option Addr) (db : Nat) (w : World) (h : IcIn w w.heap.size m Ab cb) (hb : Bs w w.heap.size A l) (hlc : l.length ≤ cp) (hcm : cp ≤ 9223372036854775807) (hnil : A = none → cp = 0) (hp : PkIn w p Ao co Bb db) :
    Calls Try.prog 6 #[icV m Ab cb, .slice A l.length cp, pkV p Ao co Bb db] w fun e w' => e = .returned (.bool true) ∧ Below w.heap.size w w' := by
  obtain ⟨L, n, hbL, hn, h3, hncp, hc⟩ := ifirst3k hb cp hlc
  have HI := Go.Lib.hid h
  have HPI := Go.Lib.hid hp
  have bl := h.blen
  have bc := h.bcap
  have br0 := h.r0
  have br1 := h.r1
  have HN := Go.Lib.hid hn
  have HB := Go.Lib.hid hbL
  have HX := Go.Lib.hid hnil
  obtain ⟨sh, hsh⟩ : ∃ sh : Bool, (decide (p.opts.length ≤ 100) && decide (p.body.length ≤ 3000)) = sh := ⟨_, rfl⟩
  have HSH := Go.Lib.hid hsh
  clear hn hb hbL h hnil hp hsh
  generalize l.length = ml at *
  go_enter Try.func6, Try.ntmps6
  go_wp2_with fail
  refine (awakeI _).mono ?_
  rintro e w1 ⟨rfl, hb1⟩
  dsimp only
  have x1 := (Bk.start (m := m) (Ab := Ab) (cb := cb) (p := p) (Ao := Ao) (co := co) (Bb := Bb) (db := db) (w := w)).call hb1
  clear hb1
  obtain ⟨c0, c1, c2, c3, d0, d1, d2, d3, d4, d5, d6, d7, d8, d9, d10⟩ := x1.cells
  go_upto_region 3 with fail
  go_cut [1] (fun s wx => s = .slice A n cp ∧ wx = w1)
  case first =>
    rcases hc with rfl | ⟨rfl, hm3⟩
    all_goals
      go_wp2
      go_meet
      exact ⟨rfl, rfl⟩
  case rest =>
  obtain ⟨rfl, rfl⟩ := hcut
  by_cases hu3 : (3000 : Int) < (m.body.length : Int)
  · go_wp2
    go_ret
    exact ⟨rfl, x1.below⟩
  have hul : m.body.length ≤ 3000 := by omega
  cases sh
  · go_wp2_with fail
    refine (rshortF p Ao co Bb db false HSH.out _).mono ?_
    rintro e w2 ⟨rfl, hb2⟩
    dsimp only
    have x2 := x1.call hb2
    go_wp2
    go_ret
    exact ⟨rfl, x2.below⟩
  go_wp2_with fail
  refine (rshortF p Ao co Bb db true HSH.out _).mono ?_
  rintro e w2 ⟨rfl, hb2⟩
  dsimp only
  have x2 := x1.call hb2
  have hsh := HSH.out
  simp only [Bool.and_eq_true, decide_eq_true_eq] at hsh
  obtain ⟨po, pb⟩ := hsh
  clear hb2 x1 c0 c1 c2 c3 d0 d1 d2 d3 d4 d5 d6 d7 d8 d9 d10
  go_wp2_with fail
  refine (iparse A _ cp L w2 HN.out ((HB.out.below x2.below).more x2.below.size) (by omega) (by omega) hcm).mono ?_
  rintro e w3 ⟨Ab', cb', rfl, hg⟩
  dsimp only
  have x3 := x2.call hg.below
  have HG := Go.Lib.hid hg.is
  have HOK := Go.Lib.hid (prsI_ok L)
  have HLG := Go.Lib.hid (prsI_long (l := L))
  obtain ⟨qq, hqq⟩ : ∃ qq, prsI L = qq := ⟨_, rfl⟩
  rw [hqq] at HG HOK HLG ⊢
  clear hg x2 hqq
  obtain ⟨f, q⟩ := qq
  dsimp only at *
  go_upto_if 43 with fail
  go_cut [] (fun wx => Bk m Ab cb p Ao co Bb db w wx)
  case first =>
    have y1 : Below w3.heap.size w3 (w3.alloc (.cells #[.int .i64 q.type, .int .i64 q.code, .int .u32 q.rest, .slice Ab' q.body.length cb'] 25)) := (Below.refl _ _).alloc (Nat.le_refl _) _
    have x3a := x3.call y1
    have G3 := Go.Lib.hid (HG.out.at y1)
    have m3 := icIs.made (w := w3) (m := q) (A_body := Ab') (c_body := cb')
    clear y1 x3 HG
    generalize w3.alloc (.cells #[.int .i64 q.type, .int .i64 q.code, .int .u32 q.rest, .slice Ab' q.body.length cb'] 25) = w3a at *
    generalize w3.heap.size = bq at *
    by_cases hf : f = 0
    · have tf : (f == 0) = true := by simpa using hf
      obtain ⟨M, ⟨r0, r1⟩, hlen, hdr, hg0, hg1⟩ := HOK.out hf
      have hL8 := HLG.out hf
      rw [HN.out] at hL8
      obtain ⟨N, hN⟩ : ∃ N : Nat, N = 8 + q.body.length := ⟨_, rfl⟩
      rw [putI_length, ← hN, HN.out] at hlen
      have HNN := Go.Lib.hid hN
      have HMM := Go.Lib.hid M
      have HDR := Go.Lib.hid hdr
      have HG0 := Go.Lib.hid hg0
      have HG1 := Go.Lib.hid hg1
      have PL : Hid ((putI q).length = N) := Go.Lib.hid (by rw [putI_length, hN])
      clear hN hf M hdr hg0 hg1 HOK HLG
      subst hlen
      obtain ⟨c0, c1, c2, c3⟩ := m3.cells
      go_wp2_with fail
      refine (iputYes q Ab' cb' w3a HMM.out G3.out _ HNN.out).mono ?_
      rintro e w4 ⟨g, kc, rfl, hown, hb4⟩
      dsimp only
      have x4 := x3a.call hb4
      have hcap := hown.cap
      unfold maxLen at hcap
      obtain ⟨hcc1, hcc2⟩ := hcap
      obtain ⟨ad, rfl, hlt, _⟩ := g8_cells HB.out (by rw [HN.out]; omega)
      have b0 : w4.cell? ⟨g, 0, none⟩ = some (.int .u8 (g8 L 0)) := by have := hown.cellAt 0 (by omega); rwa [HG0.out] at this
      have b1 : w4.cell? ⟨g, 1, none⟩ = some (.int .u8 (g8 L 1)) := by have := hown.cellAt 1 (by omega); rwa [HG1.out] at this
      have HBL := Go.Lib.hid (HB.out.below x4.below)
      have b2 : w4.cell? ad = some (.int .u8 (g8 L 0)) := by
        obtain ⟨ad', e, _, hcell⟩ := g8_cells HBL.out (by rw [HN.out]; omega)
        cases e
        have := hcell 0 (by rw [HN.out]; omega)
        rwa [add_zero] at this
      have b3 : w4.cell? ⟨ad.block, ad.off + 1, none⟩ = some (.int .u8 (g8 L 1)) := by
        obtain ⟨ad', e, _, hcell⟩ := g8_cells HBL.out (by rw [HN.out]; omega)
        cases e
        have := hcell 1 (by rw [HN.out]; omega)
        rwa [add_pos ad 1 (by omega)] at this
      have y00 := g8_lo L 0
      have y01 := g8_hi L 0
      have y10 := g8_lo L 1
      have y11 := g8_hi L 1
      have hgl := hown.lt.2
      have hal : ad.block < w4.heap.size := Nat.lt_of_lt_of_le hlt x4.below.size
      have HT1 : Hid (Bs w4 w4.heap.size (if kc = 4 then (some ⟨g, 0, none⟩ : Option Addr) else some ⟨g, 4, none⟩) ((putI q).drop 4)) := Go.Lib.hid (by
        have := hown.bs.cut 4 kc (by rw [PL.out]; omega) (by omega)
        simpa using this)
      have HT2 : Hid (Bs w4 w4.heap.size (if cp = 4 then (some ad : Option Addr) else some { block := ad.block, off := ad.off + 4 }) ((putI q).drop 4)) := Go.Lib.hid (by
        rw [HDR.out]
        have := (HBL.out.more x4.below.size).cut 4 cp (by rw [HN.out]; omega) (by omega)
        simpa using this)
      have HTL : Hid (((putI q).drop 4).length = N - 4) := Go.Lib.hid (by rw [List.length_drop, PL.out])
      generalize (putI q).drop 4 = TL at *
      generalize g8 L 0 = y0 at *
      generalize g8 L 1 = y1 at *
      have i0 : 0 < N := by omega
      have i1 : (1 : Int) < (N : Int) := by omega
      have i4 : (4 : Int) ≤ (N : Int) := by omega
      have i5 : (4 : Int) ≤ (kc : Int) := by omega
      have i6 : (4 : Int) ≤ (cp : Int) := by omega
      have tn : ((N : Int) != (N : Int)) = false := by simp
      have ty0 : (y0 != y0) = false := by simp
      have ty1 : (y1 != y1) = false := by simp
      have K : ∀ Y, Below w4.heap.size w4 Y → Y.cell? ⟨g, 0, none⟩ = some (.int .u8 y0) ∧ Y.cell? ⟨g, 1, none⟩ = some (.int .u8 y1) ∧ Y.cell? ad = some (.int .u8 y0) ∧ Y.cell? ⟨ad.block, ad.off + 1, none⟩ = some (.int .u8 y1) ∧ Below w4.heap.size w4 Y := fun Y y => ⟨(y.cell (p := ⟨g, 0, none⟩) hgl).trans b0, (y.cell (p := ⟨g, 1, none⟩) hgl).trans b1, (y.cell (p := ad) hal).trans b2, (y.cell (p := ⟨ad.block, ad.off + 1, none⟩) hal).trans b3, y⟩
      have u0 : Below w4.heap.size w4 w4.drew := below_drew (Below.refl _ _)
      clear hown hb4 x3a G3 m3 c0 c1 c2 c3 HDR HG0 HG1 PL HBL
      go_upto_region 9 with fail
      refine wp_region_held_drew (S := (fun Y => Y.cell? ⟨g, 0, none⟩ = some (.int .u8 y0) ∧ Y.cell? ⟨g, 1, none⟩ = some (.int .u8 y1) ∧ Y.cell? ad = some (.int .u8 y0) ∧ Y.cell? ⟨ad.block, ad.off + 1, none⟩ = some (.int .u8 y1) ∧ Below w4.heap.size w4 Y)) (by kernel_rfl) ?_ (fun hHeld => ?_)
      · exact K _ u0
      refine wpAnyH_take (i := 0) (oi := ⟨some 49, _, _, _, _, _⟩) (v := ?_) rfl (by kernel_rfl) (by kernel_rfl) (by kernel_rfl) (fun _ _ _ h => h) (Or.inl ⟨by rfl, ?_⟩) (by assumption) ?_
      rotate_left
      · intro w hSw; (try dsimp only at hSw); go_simp; (try with_reducible rfl)
      try simp only [Act.put, List.setIfInBounds_toArray, List.set_cons_zero, List.set_cons_succ]
      refine wpAnyH_take (i := 1) (oi := ⟨some 50, _, _, _, _, _⟩) (v := ?_) rfl (by kernel_rfl) (by kernel_rfl) (by kernel_rfl) (fun _ _ _ h => h) (Or.inl ⟨by rfl, ?_⟩) (by assumption) ?_
      rotate_left
      · intro w hSw; (try dsimp only at hSw); go_simp; (try with_reducible rfl)
      try simp only [Act.put, List.setIfInBounds_toArray, List.set_cons_zero, List.set_cons_succ]
      refine wpAnyH_take (i := 2) (oi := ⟨some 51, _, _, _, _, _⟩) (v := ?_) rfl (by kernel_rfl) (by kernel_rfl) (by kernel_rfl) (fun _ _ _ h => h) (Or.inl ⟨by rfl, ?_⟩) (by assumption) ?_
      rotate_left
      · intro w hSw; (try dsimp only at hSw); go_simp; (try with_reducible rfl)
      try simp only [Act.put, List.setIfInBounds_toArray, List.set_cons_zero, List.set_cons_succ]
      refine wpAnyH_take (i := 3) (oi := ⟨some 52, _, _, _, _, _⟩) (v := ?_) rfl (by kernel_rfl) (by kernel_rfl) (by kernel_rfl) (fun _ _ _ h => h) (Or.inl ⟨by rfl, ?_⟩) (by assumption) ?_
      rotate_left
      · intro w hSw; (try dsimp only at hSw); go_simp; (try with_reducible rfl)
      try simp only [Act.put, List.setIfInBounds_toArray, List.set_cons_zero, List.set_cons_succ]
      refine wpAnyH_take (i := 4) (oi := ⟨some 53, _, _, _, _, _⟩) (v := ?_) rfl (by kernel_rfl) (by kernel_rfl) (by kernel_rfl) (fun _ _ _ h => h) (Or.inl ⟨by rfl, ?_⟩) (by assumption) ?_
      rotate_left
      · intro w hSw; (try dsimp only at hSw); go_simp; (try with_reducible rfl)
      try simp only [Act.put, List.setIfInBounds_toArray, List.set_cons_zero, List.set_cons_succ]
      refine wpAnyH_take (i := 5) (oi := ⟨some 54, _, _, _, _, _⟩) (v := ?_) rfl (by kernel_rfl) (by kernel_rfl) (by kernel_rfl) (fun _ _ _ h => h) (Or.inl ⟨by rfl, ?_⟩) (by assumption) ?_
      rotate_left
      · intro w hSw; (try dsimp only at hSw); go_simp; (try with_reducible rfl)
      try simp only [Act.put, List.setIfInBounds_toArray, List.set_cons_zero, List.set_cons_succ]
      refine wpAnyH_take (i := 6) (oi := ⟨some 55, _, _, _, _, _⟩) (v := ?_) rfl (by kernel_rfl) (by kernel_rfl) (by kernel_rfl) (fun _ _ _ h => h) (Or.inl ⟨by rfl, ?_⟩) (by assumption) ?_
      rotate_left
      · intro w hSw; (try dsimp only at hSw); go_simp; (try with_reducible rfl)
      try simp only [Act.put, List.setIfInBounds_toArray, List.set_cons_zero, List.set_cons_succ]
      refine wpAnyH_take (i := 7) (oi := ⟨some 56, _, _, _, _, _⟩) (v := ?_) rfl (by kernel_rfl) (by kernel_rfl) (by kernel_rfl) (fun _ _ _ h => h) (Or.inl ⟨by rfl, ?_⟩) (by assumption) ?_
      rotate_left
      · intro w hSw; (try dsimp only at hSw); go_simp; (try with_reducible rfl)
      try simp only [Act.put, List.setIfInBounds_toArray, List.set_cons_zero, List.set_cons_succ]
      refine wpAnyH_take (i := 8) (oi := ⟨some 57, _, _, _, _, _⟩) (v := ?_) rfl (by kernel_rfl) (by kernel_rfl) (by kernel_rfl) (fun _ _ _ h => h) (Or.inl ⟨by rfl, ?_⟩) (by assumption) ?_
      rotate_left
      · intro w hSw; (try dsimp only at hSw); go_simp; (try with_reducible rfl)
      try simp only [Act.put, List.setIfInBounds_toArray, List.set_cons_zero, List.set_cons_succ]
      refine wpAnyH_take (i := 9) (oi := ⟨some 58, _, _, _, _, _⟩) (v := ?_) rfl (by kernel_rfl) (by kernel_rfl) (by kernel_rfl) (fun _ _ _ h => h) (Or.inl ⟨by rfl, ?_⟩) (by assumption) ?_
      rotate_left
      · intro w hSw; (try dsimp only at hSw); go_simp; (try with_reducible rfl)
      try simp only [Act.put, List.setIfInBounds_toArray, List.set_cons_zero, List.set_cons_succ]
      refine wpAnyH_take (i := 10) (oi := ⟨some 59, _, _, _, _, _⟩) (v := ?_) rfl (by kernel_rfl) (by kernel_rfl) (by kernel_rfl) (fun _ _ _ h => h) (Or.inl ⟨by rfl, ?_⟩) (by assumption) ?_
      rotate_left
      · intro w hSw; (try dsimp only at hSw); go_simp; (try with_reducible rfl)
      try simp only [Act.put, List.setIfInBounds_toArray, List.set_cons_zero, List.set_cons_succ]
      refine wpAnyH_take (i := 11) (oi := ⟨some 60, _, _, _, _, _⟩) (v := ?_) rfl (by kernel_rfl) (by kernel_rfl) (by kernel_rfl) (fun _ _ _ h => h) (Or.inl ⟨by rfl, ?_⟩) (by assumption) ?_
      rotate_left
      · intro w hSw; (try dsimp only at hSw); go_simp; (try with_reducible rfl)
      try simp only [Act.put, List.setIfInBounds_toArray, List.set_cons_zero, List.set_cons_succ]
      refine wpAnyH_take (i := 12) (oi := ⟨some 61, _, _, _, _, _⟩) (v := ?_) rfl (by kernel_rfl) (by kernel_rfl) (by kernel_rfl) (fun _ _ _ h => h) (Or.inl ⟨by rfl, ?_⟩) (by assumption) ?_
      rotate_left
      · intro w hSw; (try dsimp only at hSw); go_simp; (try with_reducible rfl)
      try simp only [Act.put, List.setIfInBounds_toArray, List.set_cons_zero, List.set_cons_succ]
      refine wpAnyH_take (i := 13) (oi := ⟨some 62, _, _, _, _, _⟩) (v := ?_) rfl (by kernel_rfl) (by kernel_rfl) (by kernel_rfl) (fun _ _ _ h => h) (Or.inl ⟨by rfl, ?_⟩) (by assumption) ?_
      rotate_left
      · intro w hSw; (try dsimp only at hSw); go_simp; (try with_reducible rfl)
      try simp only [Act.put, List.setIfInBounds_toArray, List.set_cons_zero, List.set_cons_succ]
      refine wpAnyH_ready (rs := [14]) (by kernel_rfl) (by simp) (AllReadyH.cons (o := ⟨some 63, _, _, _, _, _⟩) rfl (fun Kc hKc => ?_) AllReadyH.nil)
      go_simp
      go_at_call 11; refine (same_y _ (N - 4) (kc - 4) TL _ (N - 4) (cp - 4) TL w4.heap.size w4.heap.size w4 _ true (by simp) HTL.out HTL.out HT1.out (Nat.le_refl _) HT2.out (Nat.le_refl _) (by omega) (by omega) u0).mono ?_; rintro e v5 ⟨rfl, u5⟩
      clear hHeld
      refine hKc.out _ _ ?_ (fun hHeld => ?_)
      · (try dsimp only); exact K _ u5
      clear hKc Kc
      try simp only [Act.put, List.setIfInBounds_toArray, List.set_cons_zero, List.set_cons_succ]
      refine wpAnyH_take (i := 15) (oi := ⟨some 64, _, _, _, _, _⟩) (v := ?_) rfl (by kernel_rfl) (by kernel_rfl) (by kernel_rfl) (fun _ _ _ h => h) (Or.inl ⟨by rfl, ?_⟩) (by assumption) ?_
      rotate_left
      · intro w hSw; (try dsimp only at hSw); go_simp; (try with_reducible rfl)
      try simp only [Act.put, List.setIfInBounds_toArray, List.set_cons_zero, List.set_cons_succ]
      refine wpAnyH_take (i := 16) (oi := ⟨some 65, _, _, _, _, _⟩) (v := ?_) rfl (by kernel_rfl) (by kernel_rfl) (by kernel_rfl) (fun _ _ _ h => h) (Or.inl ⟨by rfl, ?_⟩) (by assumption) ?_
      rotate_left
      · intro w hSw; (try dsimp only at hSw); go_simp; (try with_reducible rfl)
      try simp only [Act.put, List.setIfInBounds_toArray, List.set_cons_zero, List.set_cons_succ]
      refine wpAnyH_take (i := 17) (oi := ⟨some 66, _, _, _, _, _⟩) (v := ?_) rfl (by kernel_rfl) (by kernel_rfl) (by kernel_rfl) (fun _ _ _ h => h) (Or.inl ⟨by rfl, ?_⟩) (by assumption) ?_
      rotate_left
      · intro w hSw; (try dsimp only at hSw); go_simp; (try with_reducible rfl)
      try simp only [Act.put, List.setIfInBounds_toArray, List.set_cons_zero, List.set_cons_succ]
      refine wpAnyH_take (i := 18) (oi := ⟨some 67, _, _, _, _, _⟩) (v := ?_) rfl (by kernel_rfl) (by kernel_rfl) (by kernel_rfl) (fun _ _ _ h => h) (Or.inl ⟨by rfl, ?_⟩) (by assumption) ?_
      rotate_left
      · intro w hSw; (try dsimp only at hSw); go_simp; (try with_reducible rfl)
      try simp only [Act.put, List.setIfInBounds_toArray, List.set_cons_zero, List.set_cons_succ]
      refine wpAnyH_take (i := 19) (oi := ⟨some 68, _, _, _, _, _⟩) (v := ?_) rfl (by kernel_rfl) (by kernel_rfl) (by kernel_rfl) (fun _ _ _ h => h) (Or.inl ⟨by rfl, ?_⟩) (by assumption) ?_
      rotate_left
      · intro w hSw; (try dsimp only at hSw); go_simp; (try with_reducible rfl)
      try simp only [Act.put, List.setIfInBounds_toArray, List.set_cons_zero, List.set_cons_succ]
      refine wpAnyH_take (i := 20) (oi := ⟨some 69, _, _, _, _, _⟩) (v := ?_) rfl (by kernel_rfl) (by kernel_rfl) (by kernel_rfl) (fun _ _ _ h => h) (Or.inl ⟨by rfl, ?_⟩) (by assumption) ?_
      rotate_left
      · intro w hSw; (try dsimp only at hSw); go_simp; (try with_reducible rfl)
      try simp only [Act.put, List.setIfInBounds_toArray, List.set_cons_zero, List.set_cons_succ]
      refine wpAnyH_take (i := 21) (oi := ⟨some 70, _, _, _, _, _⟩) (v := ?_) rfl (by kernel_rfl) (by kernel_rfl) (by kernel_rfl) (fun _ _ _ h => h) (Or.inl ⟨by rfl, ?_⟩) (by assumption) ?_
      rotate_left
      · intro w hSw; (try dsimp only at hSw); go_simp; (try with_reducible rfl)
      try simp only [Act.put, List.setIfInBounds_toArray, List.set_cons_zero, List.set_cons_succ]
      refine wpAnyH_take (i := 22) (oi := ⟨some 71, _, _, _, _, _⟩) (v := ?_) rfl (by kernel_rfl) (by kernel_rfl) (by kernel_rfl) (fun _ _ _ h => h) (Or.inl ⟨by rfl, ?_⟩) (by assumption) ?_
      rotate_left
      · intro w hSw; (try dsimp only at hSw); go_simp; (try with_reducible rfl)
      try simp only [Act.put, List.setIfInBounds_toArray, List.set_cons_zero, List.set_cons_succ]
      refine wpAnyH_take (i := 23) (oi := ⟨some 72, _, _, _, _, _⟩) (v := ?_) rfl (by kernel_rfl) (by kernel_rfl) (by kernel_rfl) (fun _ _ _ h => h) (Or.inl ⟨by rfl, ?_⟩) (by assumption) ?_
      rotate_left
      · intro w hSw; (try dsimp only at hSw); go_simp; (try with_reducible rfl)
      try simp only [Act.put, List.setIfInBounds_toArray, List.set_cons_zero, List.set_cons_succ]
      refine wpAnyH_take (i := 24) (oi := ⟨some 73, _, _, _, _, _⟩) (v := ?_) rfl (by kernel_rfl) (by kernel_rfl) (by kernel_rfl) (fun _ _ _ h => h) (Or.inl ⟨by rfl, ?_⟩) (by assumption) ?_
      rotate_left
      · intro w hSw; (try dsimp only at hSw); go_simp; (try with_reducible rfl)
      try simp only [Act.put, List.setIfInBounds_toArray, List.set_cons_zero, List.set_cons_succ]
      refine wpAnyH_take (i := 25) (oi := ⟨some 74, _, _, _, _, _⟩) (v := ?_) rfl (by kernel_rfl) (by kernel_rfl) (by kernel_rfl) (fun _ _ _ h => h) (Or.inl ⟨by rfl, ?_⟩) (by assumption) ?_
      rotate_left
      · intro w hSw; (try dsimp only at hSw); go_simp; (try with_reducible rfl)
      try simp only [Act.put, List.setIfInBounds_toArray, List.set_cons_zero, List.set_cons_succ]
      refine wpAnyH_take (i := 26) (oi := ⟨some 75, _, _, _, _, _⟩) (v := ?_) rfl (by kernel_rfl) (by kernel_rfl) (by kernel_rfl) (fun _ _ _ h => h) (Or.inl ⟨by rfl, ?_⟩) (by assumption) ?_
      rotate_left
      · intro w hSw; (try dsimp only at hSw); go_simp; (try with_reducible rfl)
      try simp only [Act.put, List.setIfInBounds_toArray, List.set_cons_zero, List.set_cons_succ]
      refine wpAnyH_take (i := 27) (oi := ⟨some 76, _, _, _, _, _⟩) (v := ?_) rfl (by kernel_rfl) (by kernel_rfl) (by kernel_rfl) (fun _ _ _ h => h) (Or.inl ⟨by rfl, ?_⟩) (by assumption) ?_
      rotate_left
      · intro w hSw; (try dsimp only at hSw); go_simp; (try with_reducible rfl)
      try simp only [Act.put, List.setIfInBounds_toArray, List.set_cons_zero, List.set_cons_succ]
      refine wpAnyH_take (i := 28) (oi := ⟨some 77, _, _, _, _, _⟩) (v := ?_) rfl (by kernel_rfl) (by kernel_rfl) (by kernel_rfl) (fun _ _ _ h => h) (Or.inl ⟨by rfl, ?_⟩) (by assumption) ?_
      rotate_left
      · intro w hSw; (try dsimp only at hSw); go_simp; (try with_reducible rfl)
      try simp only [Act.put, List.setIfInBounds_toArray, List.set_cons_zero, List.set_cons_succ]
      refine wpAnyH_take (i := 29) (oi := ⟨some 78, _, _, _, _, _⟩) (v := ?_) rfl (by kernel_rfl) (by kernel_rfl) (by kernel_rfl) (fun _ _ _ h => h) (Or.inl ⟨by rfl, ?_⟩) (by assumption) ?_
      rotate_left
      · intro w hSw; (try dsimp only at hSw); go_simp; (try with_reducible rfl)
      try simp only [Act.put, List.setIfInBounds_toArray, List.set_cons_zero, List.set_cons_succ]
      refine wpAnyH_take (i := 30) (oi := ⟨some 79, _, _, _, _, _⟩) (v := ?_) rfl (by kernel_rfl) (by kernel_rfl) (by kernel_rfl) (fun _ _ _ h => h) (Or.inl ⟨by rfl, ?_⟩) (by assumption) ?_
      rotate_left
      · intro w hSw; (try dsimp only at hSw); go_simp; (try with_reducible rfl)
      try simp only [Act.put, List.setIfInBounds_toArray, List.set_cons_zero, List.set_cons_succ]
      refine wpAnyH_take (i := 31) (oi := ⟨some 80, _, _, _, _, _⟩) (v := ?_) rfl (by kernel_rfl) (by kernel_rfl) (by kernel_rfl) (fun _ _ _ h => h) (Or.inl ⟨by rfl, ?_⟩) (by assumption) ?_
      rotate_left
      · intro w hSw; (try dsimp only at hSw); go_simp; (try with_reducible rfl)
      try simp only [Act.put, List.setIfInBounds_toArray, List.set_cons_zero, List.set_cons_succ]
      refine wpAnyH_take (i := 32) (oi := ⟨some 81, _, _, _, _, _⟩) (v := ?_) rfl (by kernel_rfl) (by kernel_rfl) (by kernel_rfl) (fun _ _ _ h => h) (Or.inl ⟨by rfl, ?_⟩) (by assumption) ?_
      rotate_left
      · intro w hSw; (try dsimp only at hSw); go_simp; (try with_reducible rfl)
      try simp only [Act.put, List.setIfInBounds_toArray, List.set_cons_zero, List.set_cons_succ]
      refine wpAnyH_take (i := 33) (oi := ⟨some 82, _, _, _, _, _⟩) (v := ?_) rfl (by kernel_rfl) (by kernel_rfl) (by kernel_rfl) (fun _ _ _ h => h) (Or.inl ⟨by rfl, ?_⟩) (by assumption) ?_
      rotate_left
      · intro w hSw; (try dsimp only at hSw); go_simp; (try with_reducible rfl)
      try simp only [Act.put, List.setIfInBounds_toArray, List.set_cons_zero, List.set_cons_succ]
      refine wpAnyH_take (i := 34) (oi := ⟨some 83, _, _, _, _, _⟩) (v := ?_) rfl (by kernel_rfl) (by kernel_rfl) (by kernel_rfl) (fun _ _ _ h => h) (Or.inl ⟨by rfl, ?_⟩) (by assumption) ?_
      rotate_left
      · intro w hSw; (try dsimp only at hSw); go_simp; (try with_reducible rfl)
      try simp only [Act.put, List.setIfInBounds_toArray, List.set_cons_zero, List.set_cons_succ]
      refine wpAnyH_done (by kernel_rfl) ?_ _
      go_wp2
      go_meet
      exact x4.call u5
    · have tf : (f == 0) = false := by simpa using hf
      clear hf HOK HLG m3
      go_wp2_with fail
      go_meet
      exact x3a
  case rest =>
    have x4 : Bk m Ab cb p Ao co Bb db w wc := hcut
    clear x3 hcut HOK HLG HG
    obtain ⟨c0, c1, c2, c3, d0, d1, d2, d3, d4, d5, d6, d7, d8, d9, d10⟩ := x4.cells
    obtain ⟨L2, n2, r2, hL2⟩ := putIL m
    have HL2 := Go.Lib.hid hL2
    have hn2 := hL2.small
    clear hL2
    go_wp2_with fail
    refine (iputK m Ab cb L2 n2 r2 HL2.out _ (HI.out.at x4.below) (by omega)).mono ?_
    rintro e w5 ⟨A5, c5, rfl, hB5, hb5, hn5, hc5⟩
    dsimp only
    have x5 := x4.call hb5
    have HB5 := Go.Lib.hid hB5
    clear hb5 hB5 x4 c0 c1 c2 c3 d0 d1 d2 d3 d4 d5 d6 d7 d8 d9 d10
    go_upto_if 90 with fail
    go_cut [] (fun wx => Bk m Ab cb p Ao co Bb db w wx)
    case first =>
      by_cases hM : MayI m
      · obtain ⟨rfl, hn, rfl⟩ := HL2.out.yes hM
        have HQ := Go.Lib.hid (prs_putI m hM ⟨br0, br1⟩)
        have HL5 : Hid ((putI m).length = n2) := Go.Lib.hid HL2.out.len
        clear HL2 hM hn
        go_wp2_with fail
        refine (iparse A5 n2 c5 (putI m) w5 HL5.out HB5.out (by omega) hn5 hc5).mono ?_
        rw [HQ.out]
        rintro e w6 ⟨A6, c6, rfl, hg6⟩
        dsimp only at hg6
        dsimp only
        have x6 := x5.call hg6.below
        have H6 := Go.Lib.hid hg6.is
        clear hg6 x5 HB5 HQ HL5
        go_upto_region 14 with fail
        have y7 : Below w6.heap.size w6 (w6.alloc (.cells #[.int .i64 m.type, .int .i64 m.code, .int .u32 m.rest, .slice A6 m.body.length c6] 25)) := (Below.refl _ _).alloc (Nat.le_refl _) _
        have x7 := x6.call y7
        have H7 := Go.Lib.hid (H6.out.at y7)
        have k7 := icIs.made (w := w6) (m := m) (A_body := A6) (c_body := c6)
        clear y7 x6 H6
        generalize w6.alloc (.cells #[.int .i64 m.type, .int .i64 m.code, .int .u32 m.rest, .slice A6 m.body.length c6] 25) = w7 at *
        generalize w6.heap.size = br at *
        obtain ⟨c0, c1, c2, c3, d0, d1, d2, d3, d4, d5, d6, d7, d8, d9, d10⟩ := x7.cells
        obtain ⟨e0, e1, e2, e3⟩ := k7.cells
        clear k7
        go_wp2_with fail
        refine (isame_one m A6 c6 Ab cb w7 H7.out.bs (HI.out.at x7.below).bs).mono ?_
        rintro e w8 ⟨rfl, b8⟩
        dsimp only
        go_wp2
        go_meet
        exact x7.call b8
      · obtain ⟨rfl, rfl, rfl⟩ := HL2.out.no hM
        clear hM
        go_wp2_with fail
        go_meet
        exact x5
    case rest =>
      have x6 : Bk m Ab cb p Ao co Bb db w wc := hcut
      clear x5 hcut HL2 HB5
      obtain ⟨c0, c1, c2, c3, d0, d1, d2, d3, d4, d5, d6, d7, d8, d9, d10⟩ := x6.cells
      by_cases hM : mayB p = true
      · have M := (mayB_iff p).1 hM
        have HM := Go.Lib.hid M
        have HR := Go.Lib.hid HPI.out.rng
        obtain ⟨n3, hn3⟩ : ∃ n3, n3 = 20 + p.opts.length + p.body.length := ⟨_, rfl⟩
        have hn3' : n3 ≤ 16777216 := by omega
        have HN3 := Go.Lib.hid hn3
        have po4 := M.p40
        have pblen := HPI.out.blen
        have pbcap := HPI.out.bcap
        clear hM M hn3
        go_wp2_with fail
        refine (cputN p Ao co Bb db _ n3 HN3.out HM.out HR.out ((HPI.out.obs.below x6.below).more x6.below.size) ((HPI.out.bbs.below x6.below).more x6.below.size) HPI.out.bnil).mono ?_
        rintro e w7 ⟨g7, k7, rfl, hown7, hb7⟩
        dsimp only
        have x7 := x6.call hb7
        have hcap := hown7.cap
        unfold maxLen at hcap
        have HB7 := Go.Lib.hid hown7.bs
        have HL7 := Go.Lib.hid hown7.len
        clear hb7 x6 hown7 c0 c1 c2 c3 d0 d1 d2 d3 d4 d5 d6 d7 d8 d9 d10
        go_wp2_with fail
        refine (itell 3 1 0 (some ⟨g7, 0, none⟩) n3 k7 (putB p) w7 (by omega) (by omega) HL7.out HB7.out hn3' hcap.1 (by omega)).mono ?_
        rintro e w8 ⟨A8, c8, rfl, hg8⟩
        have x8 := x7.call hg8.below
        by_cases hT : 0 < p.off ∨ ownErr p = true
        · have HT : tellI 3 1 0 (putB p) = (14, Ic.empty) := by rw [tell_put p HM.out HR.out, if_pos hT]
          have hpr : p.off = 0 → p.proto = 1 := fun h => by
            rcases hT with hT | hT
            · omega
            · unfold ownErr at hT; simp only [Bool.and_eq_true, beq_iff_eq] at hT; exact hT.1
          have m0 := HM.out.o0
          rw [HT]
          dsimp only
          clear hg8 hT HT x7 HB7 HL7
          go_upto_region 20 with fail
          have x9 := x8.call ((Below.refl _ _).alloc (Nat.le_refl _) (.cells #[.int .i64 Ic.empty.type, .int .i64 Ic.empty.code, .int .u32 Ic.empty.rest, .slice A8 Ic.empty.body.length c8] 25))
          clear x8
          generalize w8.alloc (.cells #[.int .i64 Ic.empty.type, .int .i64 Ic.empty.code, .int .u32 Ic.empty.rest, .slice A8 Ic.empty.body.length c8] 25) = w9 at *
          obtain ⟨c0, c1, c2, c3, d0, d1, d2, d3, d4, d5, d6, d7, d8, d9, d10⟩ := x9.cells
          by_cases ho : p.off = 0
          · have t1 : (p.off != 0) = false := by simpa using ho
            have t2 : (p.proto == 1) = true := by simpa using hpr ho
            clear ho hpr m0
            go_wp2
            go_ret
            exact ⟨rfl, x9.below⟩
          · have t1 : (p.off != 0) = true := by simpa using ho
            clear ho hpr m0
            go_wp2
            go_ret
            exact ⟨rfl, x9.below⟩
        · obtain ⟨x, hx⟩ : ∃ x : Ic, x = ⟨3, 1, 0, (putB p).take (20 + p.opts.length + min 8 p.body.length)⟩ := ⟨_, rfl⟩
          have HT : tellI 3 1 0 (putB p) = (0, x) := by rw [tell_put p HM.out HR.out, if_neg hT, hx]
          obtain ⟨P1, hP1⟩ : ∃ P1 : Pk, P1 = ⟨p.tos, p.id, p.df, p.mf, p.off, p.ttl, p.proto, p.src, p.dst, p.opts, p.body.take 8⟩ := ⟨_, rfl⟩
          have HAB : Hid (aboutI x = (0, P1)) := Go.Lib.hid (by rw [hP1]; exact about_front p HM.out HR.out x (by rw [hx]; rfl) (by rw [hx]))
          have hk : ∃ k : Nat, ((8 : Int) ≤ (p.body.length : Int) ∧ ¬ (p.body.length : Int) < (8 : Int) ∧ k = 8 ∨ (p.body.length : Int) < (8 : Int) ∧ ¬ (8 : Int) ≤ (p.body.length : Int) ∧ k = p.body.length) := by
            by_cases h : 8 ≤ p.body.length
            · exact ⟨8, .inl ⟨by omega, by omega, rfl⟩⟩
            · exact ⟨_, .inr ⟨by omega, by omega, rfl⟩⟩
          obtain ⟨k, hk⟩ := hk
          have hkm : min 8 p.body.length = k := by omega
          have HXL : Hid (x.body.length = 20 + p.opts.length + k) := Go.Lib.hid (by rw [hx, ← hkm]; show List.length (List.take _ _) = _; rw [List.length_take, putB_length]; omega)
          have HPL : Hid (P1.body.length = k) := Go.Lib.hid (by rw [hP1]; show List.length (List.take _ _) = _; rw [List.length_take]; exact hkm)
          have HP1 := Go.Lib.hid hP1
          rw [HT] at hg8 ⊢
          dsimp only at hg8
          dsimp only
          have H8 := Go.Lib.hid hg8.is
          clear hg8 hT HT x7 HB7 HL7 hx hP1 hkm
          go_upto_region 20 with fail
          have y9 : Below w8.heap.size w8 (w8.alloc (.cells #[.int .i64 x.type, .int .i64 x.code, .int .u32 x.rest, .slice A8 x.body.length c8] 25)) := (Below.refl _ _).alloc (Nat.le_refl _) _
          have x9 := x8.call y9
          have H9 := Go.Lib.hid (H8.out.at y9)
          have j9 := icIs.made (w := w8) (m := x) (A_body := A8) (c_body := c8)
          have s9 : w8.heap.size < (w8.alloc (.cells #[.int .i64 x.type, .int .i64 x.code, .int .u32 x.rest, .slice A8 x.body.length c8] 25)).heap.size := by simp
          clear y9 x8 H8
          generalize w8.alloc (.cells #[.int .i64 x.type, .int .i64 x.code, .int .u32 x.rest, .slice A8 x.body.length c8] 25) = w9 at *
          generalize w8.heap.size = gx at *
          obtain ⟨e0, e1, e2, e3⟩ := j9.cells
          go_wp2_with fail
          refine (iabout x A8 c8 w9 H9.out (by have := HXL.out; omega)).mono ?_
          rw [HAB.out]
          rintro e w10 ⟨Aq, cq, Bq, dq, rfl, hg10⟩
          dsimp only at hg10
          dsimp only
          have x10 := x9.call hg10.below
          have j10 := j9.call hg10.below s9
          have s10 := Nat.lt_of_lt_of_le s9 hg10.below.size
          clear e0 e1 e2 e3 j9 x9 H9 HAB s9
          go_upto_region 23 with fail
          have y11 : Below w10.heap.size w10 (w10.alloc (.cells #[.int .i64 P1.tos, .int .i64 P1.id, .bool P1.df, .bool P1.mf, .int .i64 P1.off, .int .i64 P1.ttl, .int .i64 P1.proto, .int .u32 P1.src, .int .u32 P1.dst, .slice Aq P1.opts.length cq, .slice Bq P1.body.length dq] 43)) := (Below.refl _ _).alloc (Nat.le_refl _) _
          have x11 := x10.call y11
          have j11 := j10.call y11 s10
          have C11' := c11_made w10 (.int .i64 P1.tos) (.int .i64 P1.id) (.bool P1.df) (.bool P1.mf) (.int .i64 P1.off) (.int .i64 P1.ttl) (.int .i64 P1.proto) (.int .u32 P1.src) (.int .u32 P1.dst) (.slice Aq P1.opts.length cq) (.slice Bq P1.body.length dq)
          have s11 : w10.heap.size < (w10.alloc (.cells #[.int .i64 P1.tos, .int .i64 P1.id, .bool P1.df, .bool P1.mf, .int .i64 P1.off, .int .i64 P1.ttl, .int .i64 P1.proto, .int .u32 P1.src, .int .u32 P1.dst, .slice Aq P1.opts.length cq, .slice Bq P1.body.length dq] 43)).heap.size := by simp
          have o11 := (hg10.obs.below y11).more y11.size
          have b11 := (hg10.bbs.below y11).more y11.size
          have t11 := Nat.lt_of_lt_of_le s10 y11.size
          clear y11 x10 j10 hg10
          generalize w10.alloc (.cells #[.int .i64 P1.tos, .int .i64 P1.id, .bool P1.df, .bool P1.mf, .int .i64 P1.off, .int .i64 P1.ttl, .int .i64 P1.proto, .int .u32 P1.src, .int .u32 P1.dst, .slice Aq P1.opts.length cq, .slice Bq P1.body.length dq] 43) = w11 at *
          generalize w10.heap.size = gq at *
          obtain ⟨c0, c1, c2, c3, d0, d1, d2, d3, d4, d5, d6, d7, d8, d9, d10⟩ := x11.cells
          go_cut [19] (fun s wx => s = .int .i64 (k : Int) ∧ wx = w11)
          case first =>
            rcases hk with ⟨g1, g2, rfl⟩ | ⟨g1, g2, rfl⟩
            all_goals
              go_wp2
              go_meet
              exact ⟨rfl, rfl⟩
          case rest =>
          obtain ⟨rfl, rfl⟩ := hcut
          have kdb : (k : Int) ≤ (db : Int) := by omega
          have k0 : (0 : Int) ≤ (k : Int) := by omega
          have kbl : k ≤ p.body.length := by omega
          clear hk
          go_upto_region 25 with fail
          have y12 : Below wc.heap.size wc (wc.alloc (.cells #[.int .i64 p.tos, .int .i64 p.id, .bool p.df, .bool p.mf, .int .i64 p.off, .int .i64 p.ttl, .int .i64 p.proto, .int .u32 p.src, .int .u32 p.dst, .slice Ao p.opts.length co, .slice Bb p.body.length db] 43)) := (Below.refl _ _).alloc (Nat.le_refl _) _
          have C12 := c11_made wc (.int .i64 p.tos) (.int .i64 p.id) (.bool p.df) (.bool p.mf) (.int .i64 p.off) (.int .i64 p.ttl) (.int .i64 p.proto) (.int .u32 p.src) (.int .u32 p.dst) (.slice Ao p.opts.length co) (.slice Bb p.body.length db)
          have f12 := c11_frozen wc (.int .i64 p.tos) (.int .i64 p.id) (.bool p.df) (.bool p.mf) (.int .i64 p.off) (.int .i64 p.ttl) (.int .i64 p.proto) (.int .u32 p.src) (.int .u32 p.dst) (.slice Ao p.opts.length co) (.slice Bb p.body.length db) 10
          have s12 : wc.heap.size < (wc.alloc (.cells #[.int .i64 p.tos, .int .i64 p.id, .bool p.df, .bool p.mf, .int .i64 p.off, .int .i64 p.ttl, .int .i64 p.proto, .int .u32 p.src, .int .u32 p.dst, .slice Ao p.opts.length co, .slice Bb p.body.length db] 43)).heap.size := alloc_lt wc _
          clear c0 c1 c2 c3 d0 d1 d2 d3 d4 d5 d6 d7 d8 d9 d10
          generalize wc.alloc (.cells #[.int .i64 p.tos, .int .i64 p.id, .bool p.df, .bool p.mf, .int .i64 p.off, .int .i64 p.ttl, .int .i64 p.proto, .int .u32 p.src, .int .u32 p.dst, .slice Ao p.opts.length co, .slice Bb p.body.length db] 43) = w12 at *
          obtain ⟨c0, c1, c2, c3, d0, d1, d2, d3, d4, d5, d6, d7, d8, d9, d10⟩ := (x11.call y12).cells
          have q10 := C12.c10
          go_upto_region 26 with fail
          have C13 := C12.set10 (.slice Bb k db)
          have y13 := y12.setCell (p := ⟨wc.heap.size, 10, none⟩) (Nat.le_refl _) (.slice Bb k db)
          clear C12 f12 q10 y12 c0 c1 c2 c3 d0 d1 d2 d3 d4 d5 d6 d7 d8 d9 d10
          have s13 : wc.heap.size < (w12.setCell ⟨wc.heap.size, 10, none⟩ (.slice Bb k db)).heap.size := set_lt _ _ s12
          clear s12
          generalize w12.setCell ⟨wc.heap.size, 10, none⟩ (.slice Bb k db) = w13 at *
          have x13 := x11.call y13
          have j13 := j11.call y13 t11
          have C13q := C11'.keep y13 s11
          have o13 := (o11.below y13).more y13.size
          have b13 := (b11.below y13).more y13.size
          have t13 := Nat.lt_of_lt_of_le t11 y13.size
          clear x11 j11 C11' o11 b11 y13 t11 s11
          have HSO : Hid (Bs w13 w13.heap.size Ao P1.opts) := Go.Lib.hid (by rw [HP1.out]; exact (HPI.out.obs.below x13.below).more x13.below.size)
          have HSB : Hid (Bs w13 w13.heap.size Bb P1.body) := Go.Lib.hid (by rw [HP1.out]; exact ((HPI.out.bbs.take 8).below x13.below).more x13.below.size)
          have HV : Hid (pkV P1 Ao co Bb db = .agg #[.int .i64 p.tos, .int .i64 p.id, .bool p.df, .bool p.mf, .int .i64 p.off, .int .i64 p.ttl, .int .i64 p.proto, .int .u32 p.src, .int .u32 p.dst, .slice Ao p.opts.length co, .slice Bb k db]) := Go.Lib.hid (by
            have h := HPL.out
            have h1 := HP1.out
            rw [pkV, h, h1])
          obtain ⟨c0, c1, c2, c3, c4, c5, c6, c7, c8', c9, c10⟩ := C13
          obtain ⟨q0, q1, q2, q3, q4, q5, q6, q7, q8, q9, q10⟩ := C13q
          have e1 := IntWalk.i64_in ((20 : Int) + (p.opts.length : Int)) (by omega)
          have e2 := IntWalk.i64_in ((20 : Int) + (p.opts.length : Int) + (k : Int)) (by omega)
          have tl : ((x.body.length : Int) == (20 : Int) + (p.opts.length : Int) + (k : Int)) = true := by have := HXL.out; simp; omega
          go_wp2_with fail
          refine (csame_E P1 Aq cq Bq dq Ao co Bb db w13 o13 b13 HSO.out HSB.out _ HV.out).mono ?_
          rintro e w14 ⟨rfl, b14⟩
          dsimp only
          have x14 := x13.call b14
          have j14 := j13.call b14 t13
          clear c0 c1 c2 c3 c4 c5 c6 c7 c8' c9 c10 q0 q1 q2 q3 q4 q5 q6 q7 q8 q9 q10 o13 b13 HSO HSB HV x13 j13
          obtain ⟨c0, c1, c2, c3, d0, d1, d2, d3, d4, d5, d6, d7, d8, d9, d10⟩ := x14.cells
          obtain ⟨f0, f1, f2, f3⟩ := j14.cells
          go_wp2
          go_ret
          exact ⟨rfl, x14.below⟩
      · have hM' : mayB p = false := by simpa using hM
        clear hM
        go_wp2_with fail
        refine (cputNo p Ao co Bb db _ hM' (by omega) (by omega)).mono ?_
        rintro e w7 ⟨rfl, hb7⟩
        dsimp only
        have x7 := x6.call hb7
        clear hb7 x6 c0 c1 c2 c3 d0 d1 d2 d3 d4 d5 d6 d7 d8 d9 d10
        go_wp2
        go_ret
        exact ⟨rfl, x7.below⟩
end Go.Proofs.Ytndhiopfkgdhcaa
