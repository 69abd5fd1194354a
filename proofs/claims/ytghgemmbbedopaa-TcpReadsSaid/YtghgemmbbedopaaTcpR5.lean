/- Contracts of the document's own answers for package tcp: numbers out of bytes; is a segment short? -/
import Derived.Test.YtghgemmbbedopaaTcpR4
namespace Go.Proofs.Ytghgemmbbedopaa
open Go.ChangeShapes Go.WideShapes Go.ChangeAt Go.RowKit
set_option linter.unusedVariables false

set_option maxRecDepth 100000 in
set_option maxHeartbeats 1000000 in
theorem rnum2 (A : Option Addr) (c : Nat) (l : List UInt8) (B : Nat) (w : World) (hn : l.length = 2) (h : Bs w B A l) :
    Calls Try.prog 36 #[.slice A 2 c] w fun e w' => e = .returned (.int .i64 (wd l 0)) ∧ w = w' := by
  obtain ⟨ad, rfl, _, _⟩ := g8_cell h (k := 0) (by omega)
  have c0 := zero_cell rfl h (by omega)
  have c1 := pos_cell rfl h 1 (by omega) (by omega)
  have a0 := g8_lo l 0
  have a1 := g8_hi l 0
  have b0 := g8_lo l 1
  have b1 := g8_hi l 1
  have HW : Hid (g8 l 0 * 256 + g8 l 1 = wd l 0) := Go.Lib.hid rfl
  clear h hn
  generalize g8 l 0 = x at *
  generalize g8 l 1 = y at *
  go_enter Try.func36, Try.ntmps36
  go_wp2
  refine wp_loop_rounds 3 ?_
  rw [rounds_succ]
  go_wp2
  rw [rounds_succ]
  go_wp2
  rw [rounds_succ]
  go_wp2
  go_ret
  exact ⟨ret_int HW.out, rfl⟩
set_option maxRecDepth 100000 in
set_option maxHeartbeats 2000000 in
theorem rnum4 (A : Option Addr) (c : Nat) (l : List UInt8) (B : Nat) (w : World) (hn : l.length = 4) (h : Bs w B A l) :
    Calls Try.prog 36 #[.slice A 4 c] w fun e w' => e = .returned (.int .i64 (ad4 l 0)) ∧ w = w' := by
  obtain ⟨ad, rfl, _, _⟩ := g8_cell h (k := 0) (by omega)
  have c0 := zero_cell rfl h (by omega)
  have c1 := pos_cell rfl h 1 (by omega) (by omega)
  have c2 := pos_cell rfl h 2 (by omega) (by omega)
  have c3 := pos_cell rfl h 3 (by omega) (by omega)
  have a0 := g8_lo l 0
  have a1 := g8_hi l 0
  have b0 := g8_lo l 1
  have b1 := g8_hi l 1
  have d0 := g8_lo l 2
  have d1 := g8_hi l 2
  have e0 := g8_lo l 3
  have e1 := g8_hi l 3
  have HW : Hid (((g8 l 0 * 256 + g8 l 1) * 256 + g8 l 2) * 256 + g8 l 3 = ad4 l 0) := Go.Lib.hid (by simp only [ad4, wd, Nat.reduceAdd]; omega)
  clear h hn
  generalize g8 l 0 = x at *
  generalize g8 l 1 = y at *
  generalize g8 l 2 = z at *
  generalize g8 l 3 = u at *
  go_enter Try.func36, Try.ntmps36
  go_wp2
  refine wp_loop_rounds 5 ?_
  rw [rounds_succ]
  go_wp2
  rw [rounds_succ]
  go_wp2
  rw [rounds_succ]
  go_wp2
  rw [rounds_succ]
  go_wp2
  rw [rounds_succ]
  go_wp2
  go_ret
  exact ⟨ret_int HW.out, rfl⟩

/-- is a segment short? -/
def shortT (t : Tc) : Bool := decide (t.opts.length ≤ 60) && (decide (t.body.length ≤ 3000) && t.opts.all fun o => decide (o.data.length ≤ 300))
theorem all_take_succ (os : List Op) (k : Nat) (h : k < os.length) : ((os.take (k + 1)).all fun o => decide (o.data.length ≤ 300)) = ((os.take k).all (fun o => decide (o.data.length ≤ 300)) && decide (os[k].data.length ≤ 300)) := by
  rw [List.take_succ_eq_append_getElem h, List.all_append]; simp
theorem not_short {t : Tc} {k : Nat} (hk : k < t.opts.length) (h : 300 < t.opts[k].data.length) : shortT t = false := by
  have : (t.opts.all fun o => decide (o.data.length ≤ 300)) = false := by
    rw [List.all_eq_false]
    exact ⟨t.opts[k], List.getElem_mem hk, by simp; omega⟩
  unfold shortT
  rw [this]; simp
set_option maxRecDepth 100000 in
set_option maxHeartbeats 4000000 in
theorem rshortT (t : Tc) (Ao : Option Addr) (co : Nat) (Ab : Option Addr) (cb : Nat) (b : Bool) (hsb : shortT t = b) (B : Nat) (w : World) (hO : Os w B Ao t.opts) (hB : B ≤ w.heap.size) (oc : t.opts.length ≤ co) (co2 : co ≤ 9223372036854775807) (bc : t.body.length ≤ cb) (cb2 : cb ≤ 9223372036854775807) :
    Calls Try.prog 9 #[tcV t Ao co Ab cb] w fun e w' => e = .returned (.bool b) ∧ Below w.heap.size w w' := by
  have HS := Go.Lib.hid hsb
  clear hsb
  have m0 := tcIs.made (w := w) (t := t) (A_opts := Ao) (c_opts := co) (A_body := Ab) (c_body := cb)
  have b0 : Below w.heap.size w (w.alloc (.cells #[.int .i64 t.sport, .int .i64 t.dport, .int .u32 t.seq, .int .u32 t.ack, .int .i64 t.flags, .int .i64 t.win, .int .i64 t.urg, .slice Ao t.opts.length co, .slice Ab t.body.length cb] 26)) := (Below.refl _ _).alloc (Nat.le_refl _) _
  have HO := Go.Lib.hid (hO.below (b0.mono hB))
  clear hO
  by_cases h1 : t.opts.length ≤ 60
  · by_cases h2 : t.body.length ≤ 3000
    · go_enter Try.func9, Try.ntmps9
      go_wp2
      generalize w.alloc (.cells #[.int .i64 t.sport, .int .i64 t.dport, .int .u32 t.seq, .int .u32 t.ack, .int .i64 t.flags, .int .i64 t.win, .int .i64 t.urg, .slice Ao t.opts.length co, .slice Ab t.body.length cb] 26) = W at *
      obtain ⟨c0, c1, c2, c3, c4, c5, c6, c7, c8⟩ := m0.cells
      clear m0
      go_loop [3] (fun i => ∃ k : Nat, k ≤ t.opts.length ∧ i = .int .i64 k ∧ Hid (((t.opts.take k).all fun o => decide (o.data.length ≤ 300)) = true)) (fun i => t.opts.length - (intOf i).toNat)
      case atStart => exact ⟨0, by omega, rfl, Go.Lib.hid (by simp)⟩
      case round =>
        obtain ⟨k, hk, rfl, hT⟩ := hrel
        by_cases hlt : k < t.opts.length
        · obtain ⟨ad, Ad, cd, rfl, hb, hc0, hc1, hbs, hdl, hcm, hdn⟩ := HO.out.at_ hlt
          have i1 : (0 : Int) ≤ (k : Int) := by omega
          have i2 : (k : Int) < (t.opts.length : Int) := by omega
          have HE := Go.Lib.hid (all_take_succ t.opts k hlt)
          have HX : Hid (300 < t.opts[k].data.length → shortT t = false) := Go.Lib.hid (not_short hlt)
          generalize hd : t.opts[k].data.length = d at *
          clear hd hc0 hbs hdn
          by_cases h3 : d ≤ 300
          · go_wp2
            go_round
            case rel => exact ⟨k + 1, by omega, by go_num, Go.Lib.hid (by rw [HE.out, hT.out]; simpa using h3)⟩
            case measure => simp [intOf]; omega
          · go_wp2
            go_ret
            exact ⟨ret_bool (by rw [← HS.out, HX.out (by omega)]), b0⟩
        · obtain rfl : k = t.opts.length := by omega
          go_wp2
          go_ret
          exact ⟨ret_bool (by
            have e := hT.out
            rw [List.take_length] at e
            rw [← HS.out]; unfold shortT; rw [e]; simp [h1, h2]), b0⟩
    · go_enter Try.func9, Try.ntmps9
      go_wp2
      go_ret
      exact ⟨ret_bool (by rw [← HS.out]; unfold shortT; simp [h2]), b0⟩
  · by_cases h2 : t.body.length ≤ 3000
    all_goals
      go_enter Try.func9, Try.ntmps9
      go_wp2
      go_ret
      exact ⟨ret_bool (by rw [← HS.out]; unfold shortT; simp [h1]), b0⟩
end Go.Proofs.Ytghgemmbbedopaa
