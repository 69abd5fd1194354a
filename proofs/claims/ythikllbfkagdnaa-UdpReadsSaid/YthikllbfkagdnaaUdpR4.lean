/- The contract of the document's own Parse of datagrams. -/
import Derived.Test.YthikllbfkagdnaaUdpR3
namespace Go.Proofs.Ythikllbfkagdnaa
open Go.ChangeShapes Go.WideShapes Go.ChangeAt Go.RowKit
set_option linter.unusedVariables false

theorem Row.set {w : World} {base : Nat} {v : Value} {l : List UInt8} (h : Row w base v l) {p : Addr} (hp : p.block < base) (u : Value) : Row (w.setCell p u) base v l := by
  refine ⟨h.is.1, ?_⟩
  rcases h.is.2 with h | ⟨g', cap, cur, hv, hba, hh, rest⟩
  · exact .inl h
  · refine .inr ⟨g', cap, cur, hv, hba, ?_, rest⟩
    rw [Below.heap_setCell w p u g' (by rintro rfl; omega)]
    exact hh
set_option maxRecDepth 100000 in
set_option maxHeartbeats 8000000 in
theorem rparseU (src dst : Int) (A : Option Addr) (n c : Nat) (l : List UInt8) (w : World) (hs : 0 ≤ src ∧ src ≤ 4294967295) (hd : 0 ≤ dst ∧ dst ≤ 4294967295) (hn : l.length = n) (h : Bs w w.heap.size A l) (hn2 : n ≤ 16777216) (hnc : n ≤ c) (hc2 : c ≤ 9223372036854775807) :
    Calls Try.prog 15 #[.int .u32 src, .int .u32 dst, .slice A n c] w (ParsedU w (prsU src dst l)) := by
  by_cases h2 : n < 8
  · have HP : Hid (prsU src dst l = (2, Ud.empty)) := Go.Lib.hid (by unfold prsU; rw [if_pos (by omega)])
    clear h hn
    go_enter Try.func15, Try.ntmps15
    go_wp2
    refine bodyPost_ret (v := .tuple #[.agg #[.int .i64 0, .int .i64 0, .bool false, .slice none 0 0], .int .i64 2]) ?_ rfl (parsedU_err HP.out rfl ?_)
    · simp [results, Try.results15, go_sem]
    · exact (Below.refl _ _).alloc (Nat.le_refl _) _
  obtain ⟨ad, rfl, hlt, _⟩ := g8_cell h (k := 0) (by omega)
  have HN := Go.Lib.hid hn
  have HB := Go.Lib.hid h
  have HL8 : Hid ((l.take 8).length = 8) := Go.Lib.hid (by rw [List.length_take]; omega)
  have hl8 : 8 ≤ l.length := by omega
  have b0 : Below w.heap.size w (w.alloc (.cells #[.int .i64 0, .int .i64 0, .bool false, .slice none 0 0] 25)) := (Below.refl _ _).alloc (Nat.le_refl _) _
  have s0 : (w.alloc (.cells #[.int .i64 0, .int .i64 0, .bool false, .slice none 0 0] 25)).heap.size = w.heap.size + 1 := by simp
  have i8 : (8 : Int) ≤ (c : Int) := by omega
  have z0 : (w.alloc (.cells #[.int .i64 0, .int .i64 0, .bool false, .slice none 0 0] 25)).cell? ⟨w.heap.size, 0, none⟩ = some (.int .i64 0) ∧ (w.alloc (.cells #[.int .i64 0, .int .i64 0, .bool false, .slice none 0 0] 25)).cell? ⟨w.heap.size, 1, none⟩ = some (.int .i64 0) ∧ (w.alloc (.cells #[.int .i64 0, .int .i64 0, .bool false, .slice none 0 0] 25)).cell? ⟨w.heap.size, 2, none⟩ = some (.bool false) ∧ (w.alloc (.cells #[.int .i64 0, .int .i64 0, .bool false, .slice none 0 0] 25)).cell? ⟨w.heap.size, 3, none⟩ = some (.slice none 0 0) ∧ ∀ o, (w.alloc (.cells #[.int .i64 0, .int .i64 0, .bool false, .slice none 0 0] 25)).frozen? ⟨w.heap.size, o, none⟩ = false := by
    refine ⟨?_, ?_, ?_, ?_, fun o => ?_⟩ <;> simp [go_sem]
  clear h hn
  go_enter Try.func15, Try.ntmps15
  go_upto_region 1 with fail
  generalize w.alloc (.cells #[.int .i64 0, .int .i64 0, .bool false, .slice none 0 0] 25) = W at *
  go_wp2_with fail
  refine (rwords_n (some ad) 8 c (l.take 8) w.heap.size _ HL8.out ((HB.out.below b0).take 8) b0.size (by omega) (by omega)).mono ?_
  rintro e w1 ⟨v, rfl, hown, hb1⟩
  dsimp only
  obtain ⟨g, kc, rfl, hg1, hg2, hw⟩ := words8 hl8 hown
  have q0 := hw 0 (by omega)
  have q1 := hw 1 (by omega)
  have q2 := hw 2 (by omega)
  have q3 := hw 3 (by omega)
  simp only [Nat.reduceMul, Nat.mul_zero] at q0 q1 q2 q3
  have a0 := wd_lo l 0
  have a1 := wd_hi l 0
  have a2 := wd_lo l 2
  have a3 := wd_hi l 2
  have a4 := wd_lo l 4
  have a5 := wd_hi l 4
  have a6 := wd_lo l 6
  have a7 := wd_hi l 6
  obtain ⟨z0, z1, z2, z3, zf⟩ := z0
  rw [s0] at hb1 hg1
  have hb1' := hb1
  have y0 := hb1.cell (p := ⟨w.heap.size, 0, none⟩) (Nat.lt_succ_self _)
  have y1 := hb1.cell (p := ⟨w.heap.size, 1, none⟩) (Nat.lt_succ_self _)
  have y2 := hb1.cell (p := ⟨w.heap.size, 2, none⟩) (Nat.lt_succ_self _)
  have y3 := hb1.cell (p := ⟨w.heap.size, 3, none⟩) (Nat.lt_succ_self _)
  rw [z0] at y0
  rw [z1] at y1
  rw [z2] at y2
  rw [z3] at y3
  have yf : ∀ o, w1.frozen? ⟨w.heap.size, o, none⟩ = false := fun o => (hb1.frozen (p := ⟨w.heap.size, o, none⟩) (Nat.lt_succ_self _)).trans (zf o)
  have b1 : Below w.heap.size w w1 := b0.trans (hb1.mono (Nat.le_succ _))
  have s1 : w.heap.size + 1 ≤ w1.heap.size := by have := hb1.size; omega
  clear hown hw hb1 hb1' z0 z1 z2 z3 zf s0 b0 hl8
  generalize hx0 : wd l 0 = x0 at *
  generalize hx2 : wd l 2 = x2 at *
  generalize hx4 : wd l 4 = x4 at *
  generalize hx6 : wd l 6 = x6 at *
  have X0 := Go.Lib.hid hx0
  have X2 := Go.Lib.hid hx2
  have X4 := Go.Lib.hid hx4
  have X6 := Go.Lib.hid hx6
  clear hx0 hx2 hx4 hx6
  have e0 := IntWalk.i64_in x0 (by omega)
  have e2 := IntWalk.i64_in x2 (by omega)
  have e4 := IntWalk.i64_in x4 (by omega)
  by_cases h4 : x4 < 8 ∨ (8 ≤ x4 ∧ (n : Int) < x4)
  · have HP : Hid (prsU src dst l = (4, Ud.empty)) := Go.Lib.hid (by unfold prsU; rw [if_neg (by rw [HN.out]; omega), X4.out, HN.out, if_pos (by omega)])
    have f0 := yf 0
    have f1 := yf 1
    have f2 := yf 2
    have f3 := yf 3
    rcases h4 with h4 | ⟨h4, h5⟩
    all_goals
      go_wp2
      refine bodyPost_ret (v := .tuple #[.agg #[.int .i64 0, .int .i64 0, .bool false, .slice none 0 0], .int .i64 4]) ?_ rfl (parsedU_err HP.out rfl ?_)
      · simp [results, Try.results15, go_sem, y0, y1, y2, y3]
      · exact (((b1.setCell (p := ⟨w.heap.size, 0, none⟩) (Nat.le_refl _) _).setCell (p := ⟨w.heap.size, 1, none⟩) (Nat.le_refl _) _).setCell (p := ⟨w.heap.size, 2, none⟩) (Nat.le_refl _) _).setCell (p := ⟨w.heap.size, 3, none⟩) (Nat.le_refl _) _
  · obtain ⟨N, hN⟩ : ∃ N : Nat, (N : Int) = x4 := ⟨x4.toNat, by omega⟩
    have n8 : 8 ≤ N := by omega
    have nn : N ≤ n := by omega
    have i1 : (N : Int) ≤ (c : Int) := by omega
    have i2 : (8 : Int) ≤ (N : Int) := by omega
    have i3 : (N : Int) ≤ (n : Int) := by omega
    have HNN : Hid (x4.toNat = N) := Go.Lib.hid (by show _ = _; omega)
    subst hN
    have LT : Hid ((l.take N).length = N) := Go.Lib.hid (by rw [List.length_take, HN.out]; show min _ _ = _; omega)
    obtain ⟨s, hsum⟩ : ∃ s : Int, sumT 17 src dst (l.take N) = s := ⟨_, rfl⟩
    have HS := Go.Lib.hid hsum
    clear hsum h4
    obtain ⟨bad, hbad⟩ : ∃ bad : Bool, decide (0 < x6 ∧ s ≠ 65535) = bad := ⟨_, rfl⟩
    have HBAD := Go.Lib.hid hbad
    clear hbad
    go_upto_region 7 with fail
    go_cut [42] (fun b wx => b = .bool bad ∧ Below w1.heap.size w1 wx)
    case first =>
      by_cases h6 : 0 < x6
      · go_wp2_with fail
        refine (rsumU src dst (some ad) N c (l.take N) w.heap.size _ s HS.out hs hd LT.out ((HB.out.below b1).take N) b1.size (by omega) (by omega)).mono ?_
        rintro e w3 ⟨rfl, hb3⟩
        dsimp only
        by_cases h7 : s = 65535
        · have t7 : (s != 65535) = false := by rw [h7]; rfl
          have e7 : bad = false := by rw [← HBAD.out]; simp [h7]
          clear h7
          go_wp2
          go_meet
          exact ⟨by rw [e7], hb3⟩
        · have t7 : (s != 65535) = true := by simpa using h7
          have e7 : bad = true := by rw [← HBAD.out]; simp [h6, h7]
          clear h7
          go_wp2
          go_meet
          exact ⟨by rw [e7], hb3⟩
      · have e7 : bad = false := by rw [← HBAD.out]; simp [h6]
        go_wp2
        go_meet
        exact ⟨by rw [e7], Below.refl _ _⟩
    case rest =>
      obtain ⟨rfl, hb3⟩ := hcut
      have q0' := (hb3.cell (p := ⟨g, 0, none⟩) hg2).trans q0
      have q1' := (hb3.cell (p := ⟨g, 1, none⟩) hg2).trans q1
      have q3' := (hb3.cell (p := ⟨g, 3, none⟩) hg2).trans q3
      have y0' := (hb3.cell (p := ⟨w.heap.size, 0, none⟩) s1).trans y0
      have y1' := (hb3.cell (p := ⟨w.heap.size, 1, none⟩) s1).trans y1
      have y2' := (hb3.cell (p := ⟨w.heap.size, 2, none⟩) s1).trans y2
      have y3' := (hb3.cell (p := ⟨w.heap.size, 3, none⟩) s1).trans y3
      have yf' : ∀ o, wc.frozen? ⟨w.heap.size, o, none⟩ = false := fun o => (hb3.frozen (p := ⟨w.heap.size, o, none⟩) s1).trans (yf o)
      have b3 : Below w.heap.size w wc := b1.trans (hb3.mono b1.size)
      have hsz : w.heap.size + 1 ≤ wc.heap.size := Nat.le_trans s1 hb3.size
      have hgc : g < wc.heap.size := Nat.lt_of_lt_of_le hg2 hb3.size
      clear q0 q1 q2 q3 y0 y1 y2 y3 yf b1 s1 hg2 hb3
      have f0 := yf' 0
      have f1 := yf' 1
      have f2 := yf' 2
      have f3 := yf' 3
      cases bad with
      | true =>
        have HP : Hid (prsU src dst l = (5, Ud.empty)) := Go.Lib.hid (by
          have := HBAD.out
          rw [decide_eq_true_eq] at this
          unfold prsU; rw [if_neg (by rw [HN.out]; omega), X4.out, HN.out, if_neg (by omega), if_pos (by rw [X6.out, HNN.out, HS.out]; exact this)])
        go_wp2
        refine bodyPost_ret (v := .tuple #[.agg #[.int .i64 0, .int .i64 0, .bool false, .slice none 0 0], .int .i64 5]) ?_ rfl (parsedU_err HP.out rfl ?_)
        · simp [results, Try.results15, go_sem, y0', y1', y2', y3']
        · exact (((b3.setCell (p := ⟨w.heap.size, 0, none⟩) (Nat.le_refl _) _).setCell (p := ⟨w.heap.size, 1, none⟩) (Nat.le_refl _) _).setCell (p := ⟨w.heap.size, 2, none⟩) (Nat.le_refl _) _).setCell (p := ⟨w.heap.size, 3, none⟩) (Nat.le_refl _) _
      | false =>
        have HP : Hid (prsU src dst l = (0, ⟨x0, x2, x6 == 0, (l.take N).drop 8⟩)) := Go.Lib.hid (by
          have := HBAD.out
          rw [decide_eq_false_iff_not] at this
          unfold prsU; rw [if_neg (by rw [HN.out]; omega), X4.out, HN.out, if_neg (by omega), if_neg (by rw [X6.out, HNN.out, HS.out]; exact this), X0.out, X2.out, X6.out, HNN.out])
        have LD : Hid (((l.take N).drop 8).length = N - 8) := Go.Lib.hid (by rw [List.length_drop, LT.out])
        have HC : Hid (Bs wc w.heap.size (if c = 8 then some ad else some { block := ad.block, off := ad.off + 8 }) ((l.take N).drop 8)) := Go.Lib.hid (by
          have := ((HB.out.below b3).take N).cut 8 c (by rw [LT.out]; omega) (by omega)
          simpa using this)
        have j1 : N - 8 ≤ 1073741824 := by omega
        have hne : g ≠ w.heap.size := by omega
        have K : ∀ Y, Below wc.heap.size wc Y → Y.cell? ⟨g, 0, none⟩ = some (.int .u16 x0) ∧ Y.cell? ⟨g, 1, none⟩ = some (.int .u16 x2) ∧ Y.cell? ⟨g, 3, none⟩ = some (.int .u16 x6) ∧ Below w.heap.size w Y := fun Y y => ⟨(y.cell (p := ⟨g, 0, none⟩) hgc).trans q0', (y.cell (p := ⟨g, 1, none⟩) hgc).trans q1', (y.cell (p := ⟨g, 3, none⟩) hgc).trans q3', b3.trans (y.mono b3.size)⟩
        have K2 : ∀ (Z Y : World) (a b c d : Value), Z = ((((Y.setCell ⟨w.heap.size, 0, none⟩ a).setCell ⟨w.heap.size, 1, none⟩ b).setCell ⟨w.heap.size, 2, none⟩ c).setCell ⟨w.heap.size, 3, none⟩ d) → (Y.cell? ⟨g, 0, none⟩ = some (.int .u16 x0) ∧ Y.cell? ⟨g, 1, none⟩ = some (.int .u16 x2) ∧ Y.cell? ⟨g, 3, none⟩ = some (.int .u16 x6) ∧ Below w.heap.size w Y) → Z.cell? ⟨g, 0, none⟩ = some (.int .u16 x0) ∧ Z.cell? ⟨g, 1, none⟩ = some (.int .u16 x2) ∧ Z.cell? ⟨g, 3, none⟩ = some (.int .u16 x6) ∧ Below w.heap.size w Z := fun Z Y a b c d hZ ⟨k0, k1, k2, k3⟩ => by
          subst hZ
          have hh : ∀ (Z : World) (k j : Nat) (u : Value), (Z.setCell ⟨w.heap.size, k, none⟩ u).cell? ⟨g, j, none⟩ = Z.cell? ⟨g, j, none⟩ := fun Z k j u => World.cell?_setCell_other Z _ _ u (fun e => hne (by injection e with e1; first | exact e1 | exact e1.symm))
          refine ⟨?_, ?_, ?_, (((k3.setCell (p := ⟨w.heap.size, 0, none⟩) (Nat.le_refl _) _).setCell (p := ⟨w.heap.size, 1, none⟩) (Nat.le_refl _) _).setCell (p := ⟨w.heap.size, 2, none⟩) (Nat.le_refl _) _).setCell (p := ⟨w.heap.size, 3, none⟩) (Nat.le_refl _) _⟩
          · rw [hh, hh, hh, hh]; exact k0
          · rw [hh, hh, hh, hh]; exact k1
          · rw [hh, hh, hh, hh]; exact k2
        have hbz : Below wc.heap.size wc (wc.alloc (.cells #[] 5)) := (Below.refl _ _).alloc (Nat.le_refl _) _
        have hrz : Row (wc.alloc (.cells #[] 5)) wc.heap.size (.slice (some ⟨wc.heap.size, 0, none⟩) 0 0) [] := (own_lit wc wc.heap.size [] (fun x hx => by cases hx) (Nat.le_refl _) (by simp)).row
        have HRZ := Go.Lib.hid hrz
        have l0 : ([] : List UInt8).length ≤ 1073741824 := by simp
        have hcn : (if c = 8 then some ad else some { block := ad.block, off := ad.off + 8 }) = none → c - 8 = 0 := by split <;> (intro h; cases h)
        have HCN := Go.Lib.hid hcn
        have G0 : Hid (∀ Y, Below wc.heap.size wc Y → (Y.cell? ⟨w.heap.size, 0, none⟩ = some (.int .i64 0) ∧ Y.cell? ⟨w.heap.size, 1, none⟩ = some (.int .i64 0) ∧ Y.cell? ⟨w.heap.size, 2, none⟩ = some (.bool false) ∧ Y.cell? ⟨w.heap.size, 3, none⟩ = some (.slice none 0 0)) ∧ (Y.frozen? ⟨w.heap.size, 0, none⟩ = false ∧ Y.frozen? ⟨w.heap.size, 1, none⟩ = false ∧ Y.frozen? ⟨w.heap.size, 2, none⟩ = false ∧ Y.frozen? ⟨w.heap.size, 3, none⟩ = false)) := Go.Lib.hid (fun Y y => ⟨⟨(y.cell (p := ⟨w.heap.size, 0, none⟩) hsz).trans y0', (y.cell (p := ⟨w.heap.size, 1, none⟩) hsz).trans y1', (y.cell (p := ⟨w.heap.size, 2, none⟩) hsz).trans y2', (y.cell (p := ⟨w.heap.size, 3, none⟩) hsz).trans y3'⟩, (y.frozen (p := ⟨w.heap.size, 0, none⟩) hsz).trans f0, (y.frozen (p := ⟨w.heap.size, 1, none⟩) hsz).trans f1, (y.frozen (p := ⟨w.heap.size, 2, none⟩) hsz).trans f2, (y.frozen (p := ⟨w.heap.size, 3, none⟩) hsz).trans f3⟩)
        clear hrz hcn yf' f0 f1 f2 f3 y0' y1' y2' y3' q0' q1' q3'
        go_upto_region 9 with fail
        try simp only [List.append_eq, List.cons_append, List.nil_append]
        go_region_held3 (fun Y => Y.cell? ⟨g, 0, none⟩ = some (.int .u16 x0) ∧ Y.cell? ⟨g, 1, none⟩ = some (.int .u16 x2) ∧ Y.cell? ⟨g, 3, none⟩ = some (.int .u16 x6) ∧ Below w.heap.size w Y)
          (first
            | with_reducible exact K _ (below_drew hbz)
            | with_reducible exact K _ z7
            | with_reducible exact K _ (below_drew (Below.refl _ _))
            | with_reducible exact K2 _ _ _ _ _ _ rfl (by assumption))
          ((refine apS rfl _ _ rfl wc.heap.size _ [] rfl HRZ.out.drew w.heap.size _ _ (c - 8) ((l.take N).drop 8) rfl LD.out HCN.out (HC.out.below ((below_drew hbz).mono b3.size)) l0 j1 (Below.size (below_drew hbz)) ?_; intro v7 w7 hrow7 hb7; have z7 := (below_drew hbz).trans hb7; rw [List.nil_append] at hrow7; obtain ⟨A7, c7, hv7, hl7, hc7, hn7, hs7⟩ := hrow7.form; rw [LD.out] at hv7; subst hv7; obtain ⟨⟨y0, y1, y2, y3⟩, f0, f1, f2, f3⟩ := G0.out _ z7))
        all_goals
          have yF : Below w.heap.size w ((((w7.setCell ⟨w.heap.size, 0, none⟩ (.int .i64 x0)).setCell ⟨w.heap.size, 1, none⟩ (.int .i64 x2)).setCell ⟨w.heap.size, 2, none⟩ (.bool (x6 == 0))).setCell ⟨w.heap.size, 3, none⟩ (.slice A7 (N - 8) c7)) := ((((b3.trans (z7.mono b3.size)).setCell (p := ⟨w.heap.size, 0, none⟩) (Nat.le_refl _) _).setCell (p := ⟨w.heap.size, 1, none⟩) (Nat.le_refl _) _).setCell (p := ⟨w.heap.size, 2, none⟩) (Nat.le_refl _) _).setCell (p := ⟨w.heap.size, 3, none⟩) (Nat.le_refl _) _
          have hr := (((hrow7.set (p := ⟨w.heap.size, 0, none⟩) hsz (.int .i64 x0)).set (p := ⟨w.heap.size, 1, none⟩) hsz (.int .i64 x2)).set (p := ⟨w.heap.size, 2, none⟩) hsz (.bool (x6 == 0))).set (p := ⟨w.heap.size, 3, none⟩) hsz (.slice A7 (N - 8) c7)
          obtain ⟨A8, c8, hv8, hl8, hc8, hn8, hs8⟩ := hr.form
          rw [LD.out] at hv8
          obtain ⟨rfl, _, rfl⟩ := Value.slice.inj hv8
          clear K K2 hv8
          go_wp2
          all_goals refine bodyPost_ret (v := .tuple #[.agg #[.int .i64 x0, .int .i64 x2, .bool (x6 == 0), .slice A7 (N - 8) c7], .int .i64 0]) ?_ rfl (parsedU_ok HP.out (by rw [udV, LD.out]) ⟨⟨hl8, hc8, hn8, hs8⟩, yF⟩)
          all_goals simp [results, Try.results15, go_sem, y0, y1, y2, y3]
end Go.Proofs.Ythikllbfkagdnaa
