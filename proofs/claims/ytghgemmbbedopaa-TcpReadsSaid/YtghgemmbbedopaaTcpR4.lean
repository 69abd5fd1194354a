/- The contract of the document's own Put of segments. -/
import Derived.Test.YtghgemmbbedopaaTcpR3
namespace Go.Proofs.Ytghgemmbbedopaa
open Go.ChangeShapes Go.WideShapes Go.ChangeAt Go.RowKit
set_option linter.unusedVariables false

/-- what is put, and whether. -/
structure PutTL (src dst : Int) (t : Tc) (L : List UInt8) (n : Nat) (r : Int) : Prop where
  len : L.length = n
  small : n ≤ 65535
  way : (mayT t = true ∧ L = putT src dst t ∧ r = 0) ∨ (mayT t = false ∧ L = [] ∧ r = 1)
theorem putTL (src dst : Int) (t : Tc) : ∃ L n r, PutTL src dst t L n r := by
  by_cases h : mayT t = true
  · have M := (mayT_iff t).1 h
    refine ⟨putT src dst t, _, 0, rfl, ?_, .inl ⟨h, rfl, rfl⟩⟩
    have := M.fit
    rw [putT_length]; omega
  · exact ⟨[], 0, 1, rfl, by omega, .inr ⟨by simpa using h, rfl, rfl⟩⟩
theorem PutTL.no {src dst : Int} {t : Tc} {L : List UInt8} {n : Nat} {r : Int} (h : PutTL src dst t L n r) (hm : ¬ MayT t) : L = [] ∧ n = 0 ∧ r = 1 := by
  rcases h.way with ⟨a, _⟩ | ⟨_, rfl, rfl⟩
  · exact absurd ((mayT_iff t).1 a) hm
  · have := h.len; simp at this; exact ⟨rfl, this.symm, rfl⟩
theorem PutTL.yes {src dst : Int} {t : Tc} {L : List UInt8} {n : Nat} {r : Int} (h : PutTL src dst t L n r) (hm : MayT t) : L = putT src dst t ∧ n = thl t.opts + t.body.length ∧ r = 0 := by
  rcases h.way with ⟨_, rfl, rfl⟩ | ⟨a, _⟩
  · have := h.len; rw [putT_length] at this; exact ⟨rfl, this.symm, rfl⟩
  · rw [(mayT_iff t).2 hm] at a; cases a
/-- what came, or was made: a segment's lists. -/
structure TcIn (w : World) (B : Nat) (t : Tc) (Ao : Option Addr) (co : Nat) (Ab : Option Addr) (cb : Nat) : Prop where
  q0 : 0 ≤ t.seq
  q1 : t.seq ≤ 4294967295
  a0 : 0 ≤ t.ack
  a1 : t.ack ≤ 4294967295
  olen : t.opts.length ≤ co
  ocap : co ≤ 9223372036854775807
  onil : Ao = none → co = 0
  os : Os w B Ao t.opts
  blen : t.body.length ≤ cb
  bcap : cb ≤ 9223372036854775807
  bnil : Ab = none → cb = 0
  bs : Bs w B Ab t.body
theorem TcIn.below {w w' : World} {B : Nat} {t : Tc} {Ao : Option Addr} {co : Nat} {Ab : Option Addr} {cb : Nat} (h : TcIn w B t Ao co Ab cb) (hb : Below B w w') : TcIn w' B t Ao co Ab cb :=
  ⟨h.q0, h.q1, h.a0, h.a1, h.olen, h.ocap, h.onil, h.os.below hb, h.blen, h.bcap, h.bnil, h.bs.below hb⟩
theorem TcIn.more {w : World} {B B' : Nat} {t : Tc} {Ao : Option Addr} {co : Nat} {Ab : Option Addr} {cb : Nat} (h : TcIn w B t Ao co Ab cb) (hb : B ≤ B') : TcIn w B' t Ao co Ab cb :=
  ⟨h.q0, h.q1, h.a0, h.a1, h.olen, h.ocap, h.onil, h.os.more hb, h.blen, h.bcap, h.bnil, h.bs.more hb⟩

theorem run_arr5 (a b c d e : Value) (w : World) : (Instr.index 58 (.agg #[a, b, c, d, e]) (.int .i64 0)).run Try.prog w = .ok a w ∧ (Instr.index 58 (.agg #[a, b, c, d, e]) (.int .i64 1)).run Try.prog w = .ok b w ∧ (Instr.index 58 (.agg #[a, b, c, d, e]) (.int .i64 2)).run Try.prog w = .ok c w ∧ (Instr.index 58 (.agg #[a, b, c, d, e]) (.int .i64 3)).run Try.prog w = .ok d w ∧ (Instr.index 58 (.agg #[a, b, c, d, e]) (.int .i64 4)).run Try.prog w = .ok e w := by
  obtain ⟨i0, hi, hz0, hz1, hz2⟩ := info_parts info_int
  exact ⟨run_index_arr _ _ 5 .i64 i0 _ 0 _ (by kernel_rfl) Try.underlying3 hi (by kernel_rfl) (by omega) rfl w, run_index_arr _ _ 5 .i64 i0 _ 1 _ (by kernel_rfl) Try.underlying3 hi (by kernel_rfl) (by omega) rfl w, run_index_arr _ _ 5 .i64 i0 _ 2 _ (by kernel_rfl) Try.underlying3 hi (by kernel_rfl) (by omega) rfl w, run_index_arr _ _ 5 .i64 i0 _ 3 _ (by kernel_rfl) Try.underlying3 hi (by kernel_rfl) (by omega) rfl w, run_index_arr _ _ 5 .i64 i0 _ 4 _ (by kernel_rfl) Try.underlying3 hi (by kernel_rfl) (by omega) rfl w⟩
theorem rright_b (A : Option Addr) (n c : Nat) (os : List Op) (B : Nat) (w : World) (b : Bool) (hb : rightB os = b) (hn : os.length = n) (h : Os w B A os) (hl : n ≤ 16777216) :
    Calls Try.prog 26 #[.slice A n c] w fun e w' => e = .returned (.bool b) ∧ ∃ m, w' = w.drewN m := hb ▸ rright A n c os B w hn h hl
theorem rlaid_n (t : Tc) (Ao : Option Addr) (co : Nat) (Ab : Option Addr) (cb : Nat) (ck : Int) (n : Nat) (hn : n = thl t.opts + t.body.length) (w : World) (hM : RngT t) (k0 : 0 ≤ ck) (k1 : ck ≤ 65535)
    (hAo : Os w w.heap.size Ao t.opts) (hAb : Bs w w.heap.size Ab t.body) (hnil : Ab = none → cb = 0) :
    Calls Try.prog 27 #[tcV t Ao co Ab cb, .int .i64 ck] w fun e w' => ∃ g c, e = .returned (.slice (some ⟨g, 0, none⟩) n c) ∧ Own w' w.heap.size g n c (segB t ck) ∧ Below w.heap.size w w' := by
  subst hn
  exact rlaid t Ao co Ab cb ck w hM k0 k1 hAo hAb hnil
theorem rsumT_n (src dst : Int) (A : Option Addr) (n c : Nat) (l : List UInt8) (B : Nat) (w : World) (s : Int) (h6 : sumT 6 src dst l = s) (hs : 0 ≤ src ∧ src ≤ 4294967295) (hd : 0 ≤ dst ∧ dst ≤ 4294967295) (hn : l.length = n) (h : Bs w B A l) (hB : B ≤ w.heap.size) (hl : n ≤ 16777216) (hlc : n ≤ c) :
    Calls Try.prog 28 #[.int .u32 src, .int .u32 dst, .slice A n c] w fun e w' => e = .returned (.int .u16 s) ∧ Below w.heap.size w w' := h6 ▸ rsumT src dst A n c l B w hs hd hn h hB hl hlc
/-- the five numbers that the document asks about. -/
def Five (t : Tc) : Prop := (0 ≤ t.sport ∧ t.sport ≤ 65535) ∧ (0 ≤ t.dport ∧ t.dport ≤ 65535) ∧ (0 ≤ t.win ∧ t.win ≤ 65535) ∧ (0 ≤ t.urg ∧ t.urg ≤ 65535) ∧ (0 ≤ t.flags ∧ t.flags ≤ 255)

set_option maxRecDepth 100000 in
set_option maxHeartbeats 8000000 in
theorem rputT (src dst : Int) (t : Tc) (Ao : Option Addr) (co : Nat) (Ab : Option Addr) (cb : Nat) (L : List UInt8) (n : Nat) (r : Int) (hL : PutTL src dst t L n r) (w : World) (hs : 0 ≤ src ∧ src ≤ 4294967295) (hd : 0 ≤ dst ∧ dst ≤ 4294967295)
    (hI : TcIn w w.heap.size t Ao co Ab cb) (hol : t.opts.length ≤ 16777216) :
    Calls Try.prog 11 #[.int .u32 src, .int .u32 dst, tcV t Ao co Ab cb] w (PutPost L n r w) := by
  have HI := Go.Lib.hid hI
  have HL := Go.Lib.hid hL
  have bcap := hI.bcap
  have blen := hI.blen
  have ix := fun W => run_arr5 (.int .i64 t.sport) (.int .i64 t.dport) (.int .i64 t.win) (.int .i64 t.urg) (.int .i64 t.flags) W
  have ix0 := fun W => (ix W).1
  have ix1 := fun W => (ix W).2.1
  have ix2 := fun W => (ix W).2.2.1
  have ix3 := fun W => (ix W).2.2.2.1
  have ix4 := fun W => (ix W).2.2.2.2
  have m0 := tcIs.made (w := w) (t := t) (A_opts := Ao) (c_opts := co) (A_body := Ab) (c_body := cb)
  have b0 : Below w.heap.size w (w.alloc (.cells #[.int .i64 t.sport, .int .i64 t.dport, .int .u32 t.seq, .int .u32 t.ack, .int .i64 t.flags, .int .i64 t.win, .int .i64 t.urg, .slice Ao t.opts.length co, .slice Ab t.body.length cb] 26)) := (Below.refl _ _).alloc (Nat.le_refl _) _
  have s0 : w.heap.size < (w.alloc (.cells #[.int .i64 t.sport, .int .i64 t.dport, .int .u32 t.seq, .int .u32 t.ack, .int .i64 t.flags, .int .i64 t.win, .int .i64 t.urg, .slice Ao t.opts.length co, .slice Ab t.body.length cb] 26)).heap.size := by simp
  clear hI hL ix
  go_enter Try.func11, Try.ntmps11
  go_wp2
  generalize w.alloc (.cells #[.int .i64 t.sport, .int .i64 t.dport, .int .u32 t.seq, .int .u32 t.ack, .int .i64 t.flags, .int .i64 t.win, .int .i64 t.urg, .slice Ao t.opts.length co, .slice Ab t.body.length cb] 26) = W at *
  by_cases hF : Five t
  · obtain ⟨⟨f1, f2⟩, ⟨f3, f4⟩, ⟨f5, f6⟩, ⟨f7, f8⟩, f9, f10⟩ := id hF
    refine wp_loop_rounds 6 ?_
    rw [rounds_succ]
    go_wp2
    rw [rounds_succ]
    go_wp2
    rw [rounds_succ]
    go_wp2
    rw [rounds_succ]
    go_wp2
    rw [rounds_succ]
    go_wp2
    rw [rounds_succ]
    clear ix0 ix1 ix2 ix3 ix4
    obtain ⟨c0, c1, c2, c3, c4, c5, c6, c7, c8⟩ := m0.cells
    by_cases hr : rightB t.opts = true
    · go_wp2_with fail
      refine (rright_b Ao _ co t.opts w.heap.size _ true hr rfl (HI.out.os.below b0) hol).mono ?_
      rintro e w1 ⟨rfl, m1, rfl⟩
      dsimp only
      by_cases hb : t.body.length ≤ 65535
      · have HR : Hid (RngT t) := Go.Lib.hid ⟨f1, f2, f3, f4, HI.out.q0, HI.out.q1, HI.out.a0, HI.out.a1, f5, f6, f7, f8, f9, f10, hr, hb⟩
        have b1 : Below w.heap.size w (W.drewN m1) := below_dn b0 m1
        have m1' : tcIs (W.drewN m1) w.heap.size t Ao co Ab cb := m0
        have s1 : w.heap.size < (W.drewN m1).heap.size := s0
        have I1 := Go.Lib.hid ((HI.out.below b1).more (Nat.le_of_lt s1))
        obtain ⟨N, hN⟩ : ∃ N : Nat, N = thl t.opts + t.body.length := ⟨_, rfl⟩
        have HN := Go.Lib.hid hN
        have hthl : thl t.opts ≤ 64 := by have := right_olen _ hr; have := padN_spec (olen t.opts); unfold thl; omega
        have hN2 : N ≤ 70000 := by omega
        clear hr hN
        go_wp2_with fail
        refine (rlaid_n t Ao co Ab cb 0 N HN.out _ HR.out (by omega) (by omega) I1.out.os I1.out.bs I1.out.bnil).mono ?_
        rintro e w2 ⟨g2, kc2, rfl, hown2, hb2⟩
        dsimp only
        have b2 := b1.trans (hb2.mono (Nat.le_of_lt s1))
        have m2 := m1'.call hb2 s1
        have s2 : w.heap.size < w2.heap.size := Nat.lt_of_lt_of_le s1 hb2.size
        clear hown2 hb2 m1' s1 b1 I1 c0 c1 c2 c3 c4 c5 c6 c7 c8 m0 s0 b0
        by_cases hfit : N ≤ 65535
        · have HM : Hid (MayT t) := Go.Lib.hid ⟨f1, f2, f3, f4, f5, f6, f7, f8, f9, f10, HR.out.opts, by rw [← HN.out]; exact hfit⟩
          obtain ⟨rfl, hn, rfl⟩ := HL.out.yes HM.out
          have hn' : n = N := by rw [hn, HN.out]
          subst hn'
          have HII := Go.Lib.hid m2
          have K : ∀ Y, Below w2.heap.size w2 Y → Y.cell? ⟨w.heap.size, 0, none⟩ = some (.int .i64 t.sport) ∧ Y.cell? ⟨w.heap.size, 1, none⟩ = some (.int .i64 t.dport) ∧ Y.cell? ⟨w.heap.size, 2, none⟩ = some (.int .u32 t.seq) ∧ Y.cell? ⟨w.heap.size, 3, none⟩ = some (.int .u32 t.ack) ∧ Y.cell? ⟨w.heap.size, 4, none⟩ = some (.int .i64 t.flags) ∧ Y.cell? ⟨w.heap.size, 5, none⟩ = some (.int .i64 t.win) ∧ Y.cell? ⟨w.heap.size, 6, none⟩ = some (.int .i64 t.urg) ∧ Y.cell? ⟨w.heap.size, 7, none⟩ = some (.slice Ao t.opts.length co) ∧ Y.cell? ⟨w.heap.size, 8, none⟩ = some (.slice Ab t.body.length cb) ∧ Below w2.heap.size w2 Y := fun Y y => by
            obtain ⟨c0, c1, c2, c3, c4, c5, c6, c7, c8⟩ := (HII.out.keep y s2).cells
            exact ⟨c0, c1, c2, c3, c4, c5, c6, c7, c8, y⟩
          obtain ⟨s, hsum⟩ : ∃ s : Int, sumT 6 src dst (segB t 0) = s := ⟨_, rfl⟩
          have y0 := sumT_lo 6 src dst (segB t 0)
          have y1 := sumT_hi 6 src dst (segB t 0)
          rw [hsum] at y0 y1
          have HS := Go.Lib.hid hsum
          have e1 := IntWalk.i64_in s (by omega)
          have e2 := IntWalk.i64_in (65535 - s) (by omega)
          have k0 : 0 ≤ 65535 - s := by omega
          have k1 : 65535 - s ≤ 65535 := by omega
          have LEN : Hid ((segB t 0).length = n) := Go.Lib.hid (by rw [segB_length, HN.out])
          have n16 : n ≤ 16777216 := by omega
          clear hsum hn m2
          go_upto_region 9 with fail
          try simp only [List.append_eq, List.cons_append, List.nil_append]
          go_region_held3 (fun Y => Y.cell? ⟨w.heap.size, 0, none⟩ = some (.int .i64 t.sport) ∧ Y.cell? ⟨w.heap.size, 1, none⟩ = some (.int .i64 t.dport) ∧ Y.cell? ⟨w.heap.size, 2, none⟩ = some (.int .u32 t.seq) ∧ Y.cell? ⟨w.heap.size, 3, none⟩ = some (.int .u32 t.ack) ∧ Y.cell? ⟨w.heap.size, 4, none⟩ = some (.int .i64 t.flags) ∧ Y.cell? ⟨w.heap.size, 5, none⟩ = some (.int .i64 t.win) ∧ Y.cell? ⟨w.heap.size, 6, none⟩ = some (.int .i64 t.urg) ∧ Y.cell? ⟨w.heap.size, 7, none⟩ = some (.slice Ao t.opts.length co) ∧ Y.cell? ⟨w.heap.size, 8, none⟩ = some (.slice Ab t.body.length cb) ∧ Below w2.heap.size w2 Y)
            (exact K _ (by repeat (with_reducible first | assumption | exact Below.refl _ _ | refine below_drew ?_ | refine below_dn ?_ _)))
            (first
              | (go_at_call_of 27 (Value.int .i64 0); obtain ⟨_, _, _, _, _, _, _, _, _, hx⟩ := ‹_ ∧ _›; have y3 := b2.trans (hx.mono (Nat.le_of_lt s2)); have I3 := (HI.out.below y3).more y3.size; refine (rlaid_n t Ao co Ab cb 0 n HN.out _ HR.out (by decide) (by decide) I3.os I3.bs I3.bnil).mono ?_; rintro e w3 ⟨g3, kc3, rfl, hown3, hb3⟩; have z3 := stepB hx hb3; dsimp only)
              | (go_at_call 28; refine (rsumT_n src dst (some ⟨g3, 0, none⟩) n kc3 (segB t 0) w3.heap.size _ s HS.out hs hd LEN.out hown3.bs (Nat.le_refl _) n16 hown3.cap.1).mono ?_; rintro e w4 ⟨rfl, hb4⟩; have z4 := stepB z3 hb4; dsimp only)
              | (go_at_call 27; have y5 := b2.trans (z4.mono (Nat.le_of_lt s2)); have I5 := (HI.out.below y5).more y5.size; refine (rlaid_n t Ao co Ab cb (65535 - s) n HN.out _ HR.out k0 k1 I5.os I5.bs I5.bnil).mono ?_; rintro e w5 ⟨g5, kc5, rfl, hown5, hb5⟩; have z5 := stepB z4 hb5; dsimp only))
          all_goals
            have yF := b2.trans (z5.mono (Nat.le_of_lt s2))
            have hF : segB t (65535 - s) = putT src dst t := by unfold putT chkT; rw [HS.out]
            rw [hF] at hown5
            clear K
            go_wp2
            go_ret2
            exact PutPost.of _ kc5 rfl hown5.bs yF
        · obtain ⟨rfl, rfl, rfl⟩ := HL.out.no (fun m => by have := m.fit; have := HN.out; omega)
          obtain ⟨c0, c1, c2, c3, c4, c5, c6, c7, c8⟩ := m2.cells
          go_wp2
          go_ret2
          exact PutPost.of _ 0 rfl Bs.nil_ b2
      · obtain ⟨rfl, rfl, rfl⟩ := HL.out.no (fun m => by have := m.fit; omega)
        go_wp2
        go_ret2
        exact PutPost.of _ 0 rfl Bs.nil_ (below_dn b0 m1)
    · obtain ⟨rfl, rfl, rfl⟩ := HL.out.no (fun m => hr m.opts)
      go_wp2_with fail
      refine (rright_b Ao _ co t.opts w.heap.size _ false (by simpa using hr) rfl (HI.out.os.below b0) hol).mono ?_
      rintro e w1 ⟨rfl, m1, rfl⟩
      dsimp only
      go_wp2
      go_ret2
      exact PutPost.of _ 0 rfl Bs.nil_ (below_dn b0 m1)
  · obtain ⟨rfl, rfl, rfl⟩ := HL.out.no (fun m => hF ⟨⟨m.s0, m.s1⟩, ⟨m.d0, m.d1⟩, ⟨m.w0, m.w1⟩, ⟨m.u0, m.u1⟩, m.f0, m.f1⟩)
    by_cases h1 : 0 ≤ t.sport ∧ t.sport ≤ 65535
    · obtain ⟨f1, f2⟩ := h1
      by_cases h2 : 0 ≤ t.dport ∧ t.dport ≤ 65535
      · obtain ⟨f3, f4⟩ := h2
        by_cases h3 : 0 ≤ t.win ∧ t.win ≤ 65535
        · obtain ⟨f5, f6⟩ := h3
          by_cases h4 : 0 ≤ t.urg ∧ t.urg ≤ 65535
          · obtain ⟨f7, f8⟩ := h4
            have h5 : t.flags < 0 ∨ (0 ≤ t.flags ∧ t.flags ≤ 65535 ∧ 255 < t.flags) ∨ 65535 < t.flags := by
              have : ¬ (0 ≤ t.flags ∧ t.flags ≤ 255) := fun h => hF ⟨⟨f1, f2⟩, ⟨f3, f4⟩, ⟨f5, f6⟩, ⟨f7, f8⟩, h⟩
              omega
            clear hF
            refine wp_loop_rounds 5 ?_
            rw [rounds_succ]
            go_wp2
            rw [rounds_succ]
            go_wp2
            rw [rounds_succ]
            go_wp2
            rw [rounds_succ]
            go_wp2
            rw [rounds_succ]
            rcases h5 with h5 | ⟨h5, h6, h7⟩ | h5
            all_goals
              go_wp2
              go_ret2
              exact PutPost.of _ 0 rfl Bs.nil_ b0
          · have h5 : t.urg < 0 ∨ 65535 < t.urg := by omega
            clear hF
            refine wp_loop_rounds 4 ?_
            rw [rounds_succ]
            go_wp2
            rw [rounds_succ]
            go_wp2
            rw [rounds_succ]
            go_wp2
            rw [rounds_succ]
            rcases h5 with h5 | h5
            all_goals
              go_wp2
              go_ret2
              exact PutPost.of _ 0 rfl Bs.nil_ b0
        · have h5 : t.win < 0 ∨ 65535 < t.win := by omega
          clear hF
          refine wp_loop_rounds 3 ?_
          rw [rounds_succ]
          go_wp2
          rw [rounds_succ]
          go_wp2
          rw [rounds_succ]
          rcases h5 with h5 | h5
          all_goals
            go_wp2
            go_ret2
            exact PutPost.of _ 0 rfl Bs.nil_ b0
      · have h5 : t.dport < 0 ∨ 65535 < t.dport := by omega
        clear hF
        refine wp_loop_rounds 2 ?_
        rw [rounds_succ]
        go_wp2
        rw [rounds_succ]
        rcases h5 with h5 | h5
        all_goals
          go_wp2
          go_ret2
          exact PutPost.of _ 0 rfl Bs.nil_ b0
    · have h5 : t.sport < 0 ∨ 65535 < t.sport := by omega
      clear hF
      refine wp_loop_rounds 1 ?_
      rw [rounds_succ]
      rcases h5 with h5 | h5
      all_goals
        go_wp2
        go_ret2
        exact PutPost.of _ 0 rfl Bs.nil_ b0
end Go.Proofs.Ytghgemmbbedopaa

