/- Statements of layer 6, walked: any bytes are the document's message, or have its first error. -/
import Derived.Test.YtndhiopfkgdhcaaIcmpL
namespace Go.Proofs.Ytndhiopfkgdhcaa
open Go.ChangeShapes Go.WideShapes Go.ChangeAt Go.RowKit
set_option linter.unusedVariables false
set_option linter.unusedSimpArgs false

/-- the first 3000 bytes of a slice, or all. -/
theorem ifirst3k {w : World} {B : Nat} {A : Option Addr} {l : List UInt8} (hb : Bs w B A l) (cp : Nat) (hlc : l.length ≤ cp) :
    ∃ (L : List UInt8) (n : Nat), Bs w B A L ∧ L.length = n ∧ n ≤ 3000 ∧ n ≤ cp ∧ (n = l.length ∨ n = 3000 ∧ 3000 < l.length) := by
  by_cases h : l.length ≤ 3000
  · exact ⟨l, _, hb, rfl, h, hlc, .inl rfl⟩
  · exact ⟨l.take 3000, 3000, hb.take 3000, by rw [List.length_take]; omega, by omega, by omega, .inr ⟨rfl, by omega⟩⟩
theorem isameI_v (m : Ic) (Ab : Option Addr) (cb : Nat) (v : Ic) (Ab' : Option Addr) (cb' : Nat) (B : Nat) (w : World) (hB : B ≤ w.heap.size) (hI : Bs w B Ab m.body) (hJ : Bs w B Ab' v.body) (x : Bool) (hx : sameI m v = x) :
    Calls Try.prog 12 #[icV m Ab cb, icV v Ab' cb'] w fun e w' => e = .returned (.bool x) ∧ Below w.heap.size w w' := hx ▸ isameI m Ab cb v Ab' cb' B w hB hI hJ
theorem rsameI_v (m : Ic) (Ab : Option Addr) (cb : Nat) (v : Ic) (Ab' : Option Addr) (cb' : Nat) (B : Nat) (w : World) (hB : B ≤ w.heap.size) (hI : Bs w B Ab m.body) (hJ : Bs w B Ab' v.body) (l1 : m.body.length ≤ 16777216) (l2 : v.body.length ≤ 16777216) (x : Bool) (hx : sameI m v = x) :
    Calls Try.prog 13 #[icV m Ab cb, icV v Ab' cb'] w fun e w' => e = .returned (.bool x) ∧ Below w.heap.size w w' := hx ▸ rsameI m Ab cb v Ab' cb' B w hB hI hJ l1 l2
theorem prsI_small (l : List UInt8) (hl : l.length ≤ 3000) : (prsI l).2.body.length ≤ 3000 := by
  unfold prsI
  repeat' split
  all_goals first | (simp [Ic.empty]; done) | (simp only [List.length_drop]; omega)

set_option maxRecDepth 100000 in
set_option maxHeartbeats 8000000 in
theorem readsI (A : Option Addr) (cp : Nat) (l : List UInt8) (w : World) (hb : Bs w w.heap.size A l) (hlc : l.length ≤ cp) (hcm : cp ≤ 9223372036854775807) (hnil : A = none → cp = 0) :
    Calls Try.prog 4 #[.slice A l.length cp] w fun e w' => e = .returned (.bool true) ∧ Below w.heap.size w w' := by
  obtain ⟨L, n, hbL, hn, h3, hncp, hc⟩ := ifirst3k hb cp hlc
  have HN := Go.Lib.hid hn
  have HB := Go.Lib.hid hbL
  have HX := Go.Lib.hid hnil
  have HSM := Go.Lib.hid (prsI_small L (by omega))
  clear hn hb hbL hnil
  generalize l.length = m at *
  rcases hc with rfl | ⟨rfl, hm3⟩
  all_goals
    go_enter Try.func4, Try.ntmps4
    go_wp2_with fail
    refine (awakeI _).mono ?_
    rintro e w1 ⟨rfl, x1⟩
    dsimp only
    go_wp2_with fail
    refine (iparse A _ cp L w1 HN.out ((HB.out.below x1).more x1.size) (by omega) (by omega) hcm).mono ?_
    rintro e w2 ⟨Ab, cb, rfl, hg⟩
    dsimp only
    have x2 := x1.trans (hg.below.mono x1.size)
    have HG := Go.Lib.hid hg.is
    obtain ⟨qq, hqq⟩ : ∃ qq, prsI L = qq := ⟨_, rfl⟩
    have HQQ := Go.Lib.hid hqq
    rw [hqq] at HG HSM ⊢
    clear hg hqq x1
    obtain ⟨f, q⟩ := qq
    dsimp only at *
    go_upto_region 5 with fail
    have y1 : Below w2.heap.size w2 (w2.alloc (.cells #[.int .i64 q.type, .int .i64 q.code, .int .u32 q.rest, .slice Ab q.body.length cb] 25)) := (Below.refl _ _).alloc (Nat.le_refl _) _
    have x3 := x2.trans (y1.mono x2.size)
    have G3 := Go.Lib.hid (HG.out.at y1)
    have m3 := icIs.made (w := w2) (m := q) (A_body := Ab) (c_body := cb)
    have z3 : w2.heap.size < (w2.alloc (.cells #[.int .i64 q.type, .int .i64 q.code, .int .u32 q.rest, .slice Ab q.body.length cb] 25)).heap.size := by simp
    clear y1 x2 HG
    generalize w2.alloc (.cells #[.int .i64 q.type, .int .i64 q.code, .int .u32 q.rest, .slice Ab q.body.length cb] 25) = w3 at *
    generalize w2.heap.size = bq at *
    go_wp2_with fail
    refine (rparseI A _ cp L w3 HN.out ((HB.out.below x3).more x3.size) (by omega) (by omega) hcm).mono ?_
    rw [HQQ.out]
    rintro e w4 ⟨Ab2, cb2, rfl, hg4⟩
    dsimp only
    have x4 := x3.trans (hg4.below.mono x3.size)
    have G4 := Go.Lib.hid (G3.out.at hg4.below)
    have H4 := Go.Lib.hid hg4.is
    have m4 := m3.call hg4.below z3
    have z4 := Nat.lt_of_lt_of_le z3 hg4.below.size
    clear hg4 x3 G3 m3 z3
    go_upto_region 6 with fail
    have y5 : Below w4.heap.size w4 (w4.alloc (.cells #[.int .i64 q.type, .int .i64 q.code, .int .u32 q.rest, .slice Ab2 q.body.length cb2] 25)) := (Below.refl _ _).alloc (Nat.le_refl _) _
    have x5 := x4.trans (y5.mono x4.size)
    have G5 := Go.Lib.hid (G4.out.at y5)
    have H5 := Go.Lib.hid (H4.out.at y5)
    have m5 := m4.call y5 z4
    have k5 := icIs.made (w := w4) (m := q) (A_body := Ab2) (c_body := cb2)
    clear y5 x4 G4 H4 m4 z4
    generalize w4.alloc (.cells #[.int .i64 q.type, .int .i64 q.code, .int .u32 q.rest, .slice Ab2 q.body.length cb2] 25) = w5 at *
    generalize w4.heap.size = br at *
    obtain ⟨c0, c1, c2, c3⟩ := m5.cells
    obtain ⟨d0, d1, d2, d3⟩ := k5.cells
    clear m5 k5
    go_wp2_with (go_at_call 13; refine (rsameI_v q Ab cb q Ab2 cb2 w5.heap.size w5 (Nat.le_refl _) G5.out.bs H5.out.bs (by have := HSM.out; omega) (by have := HSM.out; omega) true ((sameI_iff q q).2 rfl)).mono ?_; rintro e w6 ⟨rfl, b6⟩; dsimp only)
    go_ret
    exact ⟨rfl, x5.trans (b6.mono x5.size)⟩
end Go.Proofs.Ytndhiopfkgdhcaa
