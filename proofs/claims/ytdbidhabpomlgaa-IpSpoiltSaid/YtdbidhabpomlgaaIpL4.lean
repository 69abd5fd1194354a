/- Statements of layer 3, walked: a packet of whose head one byte was changed is told to be none. -/
import Derived.Test.YtdbidhabpomlgaaIpL2
namespace Go.Proofs.Ytdbidhabpomlgaa
open Go.ChangeShapes Go.WideShapes Go.ChangeAt Go.RowKit
set_option linter.unusedVariables false

theorem b8_toNat (b : UInt8) : b8 (b.toNat : Int) = b := by
  apply UInt8.toNat_inj.1
  have := b8_is (b.toNat : Int) (by omega) (by have := b.toNat_lt; omega)
  omega

set_option maxRecDepth 100000 in
set_option maxHeartbeats 4000000 in
theorem spoils (p : Pk) (Ao : Option Addr) (co : Nat) (Ab : Option Addr) (cb : Nat) (at_ x : Int) (hx0 : 0 ≤ x) (hx1 : x ≤ 255) (w : World) (h : PkIn w p Ao co Ab cb) :
    Calls Try.prog 6 #[pkV p Ao co Ab cb, .int .i64 at_, .int .u8 x] w fun e w' => e = .returned (.bool true) ∧ Below w.heap.size w w' := by
  have HI := Go.Lib.hid h
  clear h
  go_enter Try.func6, Try.ntmps6
  go_wp2_with fail
  refine (awake _).mono ?_
  rintro e w1 ⟨rfl, hb1⟩
  dsimp only
  have x1 := (Bx.start (p := p) (Ao := Ao) (co := co) (Ab := Ab) (cb := cb) (w := w)).call hb1
  clear hb1
  obtain ⟨c0, c1, c2, c3, c4, c5, c6, c7, c8, c9, c10⟩ := x1.cells
  by_cases hS : p.opts.length ≤ 100 ∧ p.body.length ≤ 3000
  · obtain ⟨s1, s2⟩ := hS
    go_wp2_with fail
    refine (rshortF p Ao co Ab cb true (by simp [s1, s2]) _).mono ?_
    rintro e w2 ⟨rfl, hb2⟩
    dsimp only
    have x2 := x1.call hb2
    clear hb2 x1 c0 c1 c2 c3 c4 c5 c6 c7 c8 c9 c10
    obtain ⟨c0, c1, c2, c3, c4, c5, c6, c7, c8, c9, c10⟩ := x2.cells
    by_cases hz : x = 0
    · have t0 : (x == 0) = true := by simpa using hz
      clear hz
      go_wp2
      go_ret
      exact ⟨rfl, x2.below⟩
    · have t0 : (x == 0) = false := by simpa using hz
      by_cases hM : mayB p = true
      · have M := (mayB_iff p).1 hM
        have p40 := M.p40
        have HM := Go.Lib.hid M
        obtain ⟨n, hn⟩ : ∃ n : Nat, n = 20 + p.opts.length + p.body.length := ⟨_, rfl⟩
        have HN := Go.Lib.hid hn
        have hn3 : n ≤ 3060 := by omega
        have HZ := Go.Lib.hid hz
        have hno : 20 + p.opts.length ≤ n := by omega
        clear hM hn hz
        go_wp2_with fail
        refine (cputN p Ao co Ab cb _ n HN.out HM.out HI.out.rng ((HI.out.obs.below x2.below).more x2.below.size) ((HI.out.bbs.below x2.below).more x2.below.size) HI.out.bnil).mono ?_
        rintro e w3 ⟨g, c, rfl, hown, hb3⟩
        dsimp only
        have x3 := x2.call hb3
        have x2s := x2.size
        clear hb3 x2 c0 c1 c2 c3 c4 c5 c6 c7 c8 c9 c10
        obtain ⟨c0, c1, c2, c3, c4, c5, c6, c7, c8, c9, c10⟩ := x3.cells
        by_cases h0 : at_ < 0
        · go_wp2
          go_ret
          exact ⟨rfl, x3.below⟩
        · by_cases h1 : 20 + (p.opts.length : Int) ≤ at_
          · go_wp2
            go_ret
            exact ⟨rfl, x3.below⟩
          · obtain ⟨k, rfl⟩ := Int.eq_ofNat_of_zero_le (Int.not_lt.1 h0)
            have hk : k < n := by omega
            have hk20 : k < 20 + p.opts.length := by omega
            have hlen := hown.len
            have hgk : g8 (putB p) k = (((putB p)[k]'(by omega)).toNat : Int) := g8_at _ _ _
            have bk := hown.cellAt k hk
            have zk := hown.frozenAt k
            have ik : (k : Int) < (n : Int) := by omega
            have hxor := xor_walk ((putB p)[k]'(by omega)) x hx0 hx1
            rw [← hgk] at hxor
            have hsp := Go.Lib.hid (spoilt p HM.out HI.out.rng k ((putB p)[k]'(by omega) ^^^ b8 x) hk20 (xor_other _ x HZ.out hx0 hx1))
            obtain ⟨o4, b4⟩ := hown.stored k ((((putB p)[k]'(by omega)) ^^^ b8 x).toNat : Int) (by omega) (by have := (((putB p)[k]'(by omega)) ^^^ b8 x).toNat_lt; omega)
            rw [b8_toNat] at o4
            have HO4 := Go.Lib.hid o4
            have HB4 := Go.Lib.hid b4
            have hcap := hown.cap
            unfold maxLen at hcap
            have x3s := x3.size
            have xb := x3.below
            clear o4 b4 hgk hown
            generalize hb : ((putB p)[k]'(by omega) ^^^ b8 x) = b at *
            clear hb
            have hyy := x3.step (HB4.out.mono (by omega))
            go_wp2_with fail
            refine (cparse (some ⟨g, 0, none⟩) n c ((putB p).set k b) _ HO4.out.len HO4.out.bs (by omega) hcap.1 hcap.2).mono ?_
            rintro e w5 ⟨Ao', co', Ab', cb', rfl, hg⟩
            dsimp only
            have x5 := hyy.call hg.below
            clear c0 c1 c2 c3 c4 c5 c6 c7 c8 c9 c10 x3 xb bk zk hyy x3s hxor HO4 HB4
            obtain ⟨c0, c1, c2, c3, c4, c5, c6, c7, c8, c9, c10⟩ := x5.cells
            have x5s := x5.size
            have hlt5 : w.heap.size < w5.heap.size := x5s
            have hne5 : w5.heap.size ≠ w.heap.size := by omega
            have hE := Go.Lib.hid (prs_empty ((putB p).set k b))
            clear hg hlen
            generalize prs ((putB p).set k b) = q at *
            obtain ⟨f, q⟩ := q
            dsimp only at *
            by_cases hk0 : k = 0
            · have tk : ((k : Int) == 0) = true := by rw [beq_iff_eq]; omega
              by_cases hf : f = 0
              · have tf : (f != 0) = false := by simpa using hf
                have hq : q.opts.length ≠ p.opts.length := by
                  rcases hsp.out with h | ⟨_, h⟩
                  · exact absurd hf h
                  · exact h
                have tq : ((q.opts.length : Int) != (p.opts.length : Int)) = true := by rw [bne_iff_ne]; omega
                clear hk0 hf hq
                go_wp2
                go_ret
                exact ⟨rfl, x5.below.alloc x5.below.size _⟩
              · have tf : (f != 0) = true := by simpa using hf
                clear hk0 hf
                go_wp2
                go_ret
                exact ⟨rfl, x5.below.alloc x5.below.size _⟩
            · have tk : ((k : Int) == 0) = false := by rw [beq_eq_false_iff_ne]; omega
              have hf : f ≠ 0 := by
                rcases hsp.out with h | ⟨h, _⟩
                · exact h
                · exact absurd h hk0
              have tf : (f != 0) = true := by simpa using hf
              have hq := hE.out hf
              subst hq
              have tb : (((Pk.empty.body.length : Nat) : Int) == 0) = true := rfl
              clear hk0 hf
              go_wp2
              go_ret
              exact ⟨rfl, x5.below.alloc x5.below.size _⟩
      · have hM' : mayB p = false := by simpa using hM
        clear hM
        go_wp2_with fail
        refine (cputNo p Ao co Ab cb _ hM' (by omega) (by omega)).mono ?_
        rintro e w3 ⟨rfl, hb3⟩
        dsimp only
        have x3 := x2.call hb3
        clear hb3 x2 c0 c1 c2 c3 c4 c5 c6 c7 c8 c9 c10
        go_wp2
        go_ret
        exact ⟨rfl, x3.below⟩
  · have hS' : (decide (p.opts.length ≤ 100) && decide (p.body.length ≤ 3000)) = false := by
      rw [Bool.and_eq_false_iff, decide_eq_false_iff_not, decide_eq_false_iff_not]; omega
    clear hS
    go_wp2_with fail
    refine (rshortF p Ao co Ab cb false hS' _).mono ?_
    rintro e w2 ⟨rfl, hb2⟩
    dsimp only
    have x2 := x1.call hb2
    clear hb2 x1 c0 c1 c2 c3 c4 c5 c6 c7 c8 c9 c10
    go_wp2
    go_ret
    exact ⟨rfl, x2.below⟩
end Go.Proofs.Ytdbidhabpomlgaa
