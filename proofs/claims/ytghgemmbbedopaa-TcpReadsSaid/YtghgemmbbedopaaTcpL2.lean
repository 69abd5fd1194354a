/- Statements of layer 4, walked: a segment of which one byte was changed is told to be none. -/
import Derived.Test.YtghgemmbbedopaaTcpL
namespace Go.Proofs.Ytghgemmbbedopaa
open Go.ChangeShapes Go.WideShapes Go.ChangeAt Go.RowKit
set_option linter.unusedVariables false
set_option linter.unusedSimpArgs false

theorem b8_back (b : UInt8) : b8 (b.toNat : Int) = b := by
  apply UInt8.toNat_inj.1
  have := b8_is (b.toNat : Int) (by omega) (by have := b.toNat_lt; omega)
  omega
theorem xor_addr (s x : Nat) (hs : s < 4294967296) (hx : x < 256) (h0 : x ≠ 0) : ∃ e : Int, (((s ^^^ (x * 256) : Nat) : Int) / 65536 = (s : Int) / 65536) ∧ ((s ^^^ (x * 256) : Nat) : Int) % 65536 = (s : Int) % 65536 + 256 * e ∧ e ≠ 0 ∧ -255 ≤ e ∧ e ≤ 255 ∧ (s ^^^ (x * 256)) < 4294967296 := by
  have d1 : (s ^^^ (x * 256)) / 2 ^ 16 = s / 2 ^ 16 := by rw [Nat.xor_div_two_pow, show x * 256 / 2 ^ 16 = 0 by omega, Nat.xor_zero]
  have d2 : (s ^^^ (x * 256)) % 2 ^ 8 = s % 2 ^ 8 := by rw [Nat.xor_mod_two_pow, show x * 256 % 2 ^ 8 = 0 by omega, Nat.xor_zero]
  have d3 : (s ^^^ (x * 256)) / 2 ^ 8 % 2 ^ 8 = (s / 2 ^ 8 % 2 ^ 8) ^^^ x := by
    rw [Nat.xor_div_two_pow, Nat.xor_mod_two_pow, show x * 256 / 2 ^ 8 = x by omega, show x % 2 ^ 8 = x by omega]
  have d4 : (s / 2 ^ 8 % 2 ^ 8) ^^^ x < 2 ^ 8 := Nat.xor_lt_two_pow (by omega) (by omega)
  have d5 : (s / 2 ^ 8 % 2 ^ 8) ^^^ x ≠ s / 2 ^ 8 % 2 ^ 8 := by
    intro h
    have h2 : (s / 2 ^ 8 % 2 ^ 8) ^^^ ((s / 2 ^ 8 % 2 ^ 8) ^^^ x) = (s / 2 ^ 8 % 2 ^ 8) ^^^ (s / 2 ^ 8 % 2 ^ 8) := by rw [h]
    rw [← Nat.xor_assoc, Nat.xor_self, Nat.zero_xor] at h2
    exact h0 h2
  generalize (s / 2 ^ 8 % 2 ^ 8) ^^^ x = y at *
  generalize s ^^^ (x * 256) = r at *
  exact ⟨(y : Int) - ((s / 256 % 256 : Nat) : Int), by omega, by omega, by omega, by omega, by omega, by omega⟩
/-- a boxed segment. -/
structure Bt (t : Tc) (Ao : Option Addr) (co : Nat) (Ab : Option Addr) (cb : Nat) (w w' : World) : Prop where
  b : Below (w.heap.size + 1) (w.alloc (tcO t Ao co Ab cb)) w'
section
variable {t : Tc} {Ao : Option Addr} {co : Nat} {Ab : Option Addr} {cb : Nat} {w w' w'' : World}
theorem Bt.start : Bt t Ao co Ab cb w (w.alloc (tcO t Ao co Ab cb)) := ⟨Below.refl _ _⟩
theorem Bt.size (h : Bt t Ao co Ab cb w w') : w.heap.size + 1 ≤ w'.heap.size := by have := h.b.size; simpa using this
theorem Bt.step (h : Bt t Ao co Ab cb w w') (hb : Below (w.heap.size + 1) w' w'') : Bt t Ao co Ab cb w w'' := ⟨h.b.trans hb⟩
theorem Bt.call (h : Bt t Ao co Ab cb w w') (hb : Below w'.heap.size w' w'') : Bt t Ao co Ab cb w w'' := ⟨h.b.trans (hb.mono h.size)⟩
theorem Bt.below (h : Bt t Ao co Ab cb w w') : Below w.heap.size w w' := ((Below.refl _ _).alloc (Nat.le_refl _) _).trans (h.b.mono (Nat.le_succ _))
theorem Bt.cells (h : Bt t Ao co Ab cb w w') : w'.cell? ⟨w.heap.size, 0, none⟩ = some (.int .i64 t.sport) ∧ w'.cell? ⟨w.heap.size, 1, none⟩ = some (.int .i64 t.dport) ∧ w'.cell? ⟨w.heap.size, 2, none⟩ = some (.int .u32 t.seq) ∧ w'.cell? ⟨w.heap.size, 3, none⟩ = some (.int .u32 t.ack) ∧ w'.cell? ⟨w.heap.size, 4, none⟩ = some (.int .i64 t.flags) ∧ w'.cell? ⟨w.heap.size, 5, none⟩ = some (.int .i64 t.win) ∧ w'.cell? ⟨w.heap.size, 6, none⟩ = some (.int .i64 t.urg) ∧ w'.cell? ⟨w.heap.size, 7, none⟩ = some (.slice Ao t.opts.length co) ∧ w'.cell? ⟨w.heap.size, 8, none⟩ = some (.slice Ab t.body.length cb) :=
  ((tcIs.made (w := w) (t := t)).keep h.b (Nat.lt_succ_self _)).cells
theorem Bt.alloc (h : Bt t Ao co Ab cb w w') (o : Obj) : Bt t Ao co Ab cb w (w'.alloc o) := ⟨h.b.alloc h.size o⟩
end
theorem short_osm {t : Tc} (h : shortT t = true) : Osm t.opts ∧ t.opts.length ≤ 60 ∧ t.body.length ≤ 3000 := by
  unfold shortT at h
  simp only [Bool.and_eq_true, decide_eq_true_eq] at h
  obtain ⟨a, b, c⟩ := h
  refine ⟨⟨by omega, fun o ho => ?_⟩, a, b⟩
  have := List.all_eq_true.1 c o ho
  simp at this
  omega
theorem TcIn.at {w : World} {t : Tc} {Ao : Option Addr} {co : Nat} {Ab : Option Addr} {cb : Nat} (h : TcIn w w.heap.size t Ao co Ab cb) {w' : World} (hb : Below w.heap.size w w') : TcIn w' w'.heap.size t Ao co Ab cb := (h.below hb).more hb.size

set_option maxRecDepth 100000 in
set_option maxHeartbeats 4000000 in
theorem spoilsT (src dst : Int) (t : Tc) (Ao : Option Addr) (co : Nat) (Ab : Option Addr) (cb : Nat) (at_ x : Int) (hs : 0 ≤ src ∧ src ≤ 4294967295) (hd : 0 ≤ dst ∧ dst ≤ 4294967295) (hx0 : 0 ≤ x) (hx1 : x ≤ 255) (w : World) (h : TcIn w w.heap.size t Ao co Ab cb) :
    Calls Try.prog 6 #[.int .u32 src, .int .u32 dst, tcV t Ao co Ab cb, .int .i64 at_, .int .u8 x] w fun e w' => e = .returned (.bool true) ∧ Below w.heap.size w w' := by
  have HI := Go.Lib.hid h
  have ol := h.olen
  have oc := h.ocap
  have bl := h.blen
  have bc := h.bcap
  obtain ⟨hs0, hs1⟩ := id hs
  clear h
  go_enter Try.func6, Try.ntmps6
  go_wp2_with fail
  refine (awakeT _).mono ?_
  rintro e w1 ⟨rfl, hb1⟩
  dsimp only
  have x1 := (Bt.start (t := t) (Ao := Ao) (co := co) (Ab := Ab) (cb := cb) (w := w)).call hb1
  clear hb1
  obtain ⟨c0, c1, c2, c3, c4, c5, c6, c7, c8⟩ := x1.cells
  obtain ⟨sh, hsh⟩ : ∃ sh, shortT t = sh := ⟨_, rfl⟩
  have HSH := Go.Lib.hid hsh
  clear hsh
  go_wp2_with fail
  refine (rshortT t Ao co Ab cb sh HSH.out w.heap.size _ (HI.out.os.below x1.below) x1.below.size ol oc bl bc).mono ?_
  rintro e w2 ⟨rfl, hb2⟩
  dsimp only
  have x2 := x1.call hb2
  clear hb2 x1 c0 c1 c2 c3 c4 c5 c6 c7 c8
  obtain ⟨c0, c1, c2, c3, c4, c5, c6, c7, c8⟩ := x2.cells
  cases sh with
  | false =>
    go_wp2
    go_ret
    exact ⟨rfl, x2.below⟩
  | true =>
    obtain ⟨hosm, l60, l3⟩ := short_osm HSH.out
    have HO := Go.Lib.hid hosm
    clear hosm
    by_cases hz : x = 0
    · have t0 : (x == 0) = true := by simpa using hz
      clear hz
      go_wp2
      go_ret
      exact ⟨rfl, x2.below⟩
    · have t0 : (x == 0) = false := by simpa using hz
      have HZ := Go.Lib.hid hz
      clear hz
      by_cases hM : mayT t = true
      · have M := (mayT_iff t).1 hM
        have HM := Go.Lib.hid M
        obtain ⟨n, hn⟩ : ∃ n : Nat, n = thl t.opts + t.body.length := ⟨_, rfl⟩
        have hn65 := M.fit
        rw [← hn] at hn65
        have HN := Go.Lib.hid hn
        clear hM hn M
        go_wp2_with fail
        refine (tputYes src dst t Ao co Ab cb _ HM.out hs hd (HI.out.at x2.below) n HN.out).mono ?_
        rintro e w3 ⟨g, c, rfl, hown, hb3⟩
        dsimp only
        have x3 := x2.call hb3
        have x2s := x2.size
        have hown : Own w3 (w.heap.size + 1) g n c (putT src dst t) := World.ownsRow.mono hown x2s
        clear hb3 x2 c0 c1 c2 c3 c4 c5 c6 c7 c8
        by_cases h0 : at_ < 0
        · go_wp2
          go_ret
          exact ⟨rfl, x3.below⟩
        · by_cases h1 : (n : Int) ≤ at_
          · go_wp2
            go_ret
            exact ⟨rfl, x3.below⟩
          · obtain ⟨k, rfl⟩ := Int.eq_ofNat_of_zero_le (Int.not_lt.1 h0)
            have HOW : Hid (Own w3 (w.heap.size + 1) g n c (putT src dst t)) := Go.Lib.hid hown
            have hk : k < n := by omega
            have hlen := hown.len
            have hkl : k < (putT src dst t).length := by omega
            have hgk : g8 (putT src dst t) k = (((putT src dst t)[k]'hkl).toNat : Int) := g8_at _ _ _
            have bk := hown.cellAt k hk
            have zk := hown.frozenAt k
            have ik : (k : Int) < (n : Int) := by omega
            have hxor := xor_walk ((putT src dst t)[k]'hkl) x hx0 hx1
            have hsp := Go.Lib.hid (spoiltT src dst t k ((putT src dst t)[k]'hkl ^^^ b8 x) (by have := HN.out; omega) (xor_other _ x HZ.out hx0 hx1))
            have hback : ((putT src dst t)[k]'hkl ^^^ b8 x) ^^^ b8 x = (putT src dst t)[k]'hkl := by rw [UInt8.xor_assoc, UInt8.xor_self, UInt8.xor_zero]
            have hxor2 := xor_walk ((putT src dst t)[k]'hkl ^^^ b8 x) x hx0 hx1
            rw [hback] at hxor2
            have hset : Hid (((putT src dst t).set k ((putT src dst t)[k]'hkl ^^^ b8 x)).set k ((putT src dst t)[k]'hkl) = putT src dst t) := Go.Lib.hid (by rw [List.set_set]; simp)
            have hgb : g8 ((putT src dst t).set k ((putT src dst t)[k]'hkl ^^^ b8 x)) k = (((putT src dst t)[k]'hkl ^^^ b8 x).toNat : Int) := by
              rw [g8_at _ k (by rw [List.length_set]; exact hkl)]; simp
            have HGB := Go.Lib.hid hgb
            have hl1 := ((putT src dst t)[k]'hkl).toNat_lt
            have hl2 := ((putT src dst t)[k]'hkl ^^^ b8 x).toNat_lt
            rw [hgk] at bk
            clear hgb hback hgk hown
            generalize (putT src dst t)[k]'hkl ^^^ b8 x = b at *
            generalize (putT src dst t)[k]'hkl = a at *
            have o4 := (HOW.out.stored k (b.toNat : Int) (by omega) (by omega)).1
            have b4 := (HOW.out.stored k (b.toNat : Int) (by omega) (by omega)).2
            rw [b8_back] at o4
            have HO4 := Go.Lib.hid o4
            have x4 := x3.step b4
            have hcap := HOW.out.cap
            unfold maxLen at hcap
            obtain ⟨hcap1, hcap2⟩ := hcap
            clear o4 b4 HOW
            go_upto_region 9 with fail
            have bl5 := HO4.out.cellAt k hk
            rw [HGB.out] at bl5
            clear x3 bk
            generalize w3.setCell ⟨g, k, none⟩ (.int .u8 (b.toNat : Int)) = w4 at *
            have hg4 := HO4.out.lt.2
            go_wp2_with fail
            refine (tparse src dst (some ⟨g, 0, none⟩) n c ((putT src dst t).set k b) w4 hs hd HO4.out.len HO4.out.bs (by omega) hcap1 (by omega) (fun h => by cases h)).mono ?_
            rintro e w5 ⟨Ao1, co1, Ab1, cb1, rfl, hg5⟩
            dsimp only
            have x5 := x4.call hg5.below
            have o5 := HO4.out.below hg5.below
            have HQ := hsp
            clear hg5 hsp x4 HO4 bl5 hxor
            generalize prsT src dst ((putT src dst t).set k b) = q at *
            obtain ⟨f, q⟩ := q
            dsimp only at *
            have tf : (f != 0) = true := by have := HQ.out; simpa using this
            go_upto_region 10 with fail
            have x6 := x5.alloc (.cells #[.int .i64 q.sport, .int .i64 q.dport, .int .u32 q.seq, .int .u32 q.ack, .int .i64 q.flags, .int .i64 q.win, .int .i64 q.urg, .slice Ao1 q.opts.length co1, .slice Ab1 q.body.length cb1] 26)
            have o6 := o5.below ((Below.refl _ _).alloc (Nat.le_refl _) (.cells #[.int .i64 q.sport, .int .i64 q.dport, .int .u32 q.seq, .int .u32 q.ack, .int .i64 q.flags, .int .i64 q.win, .int .i64 q.urg, .slice Ao1 q.opts.length co1, .slice Ab1 q.body.length cb1] 26))
            clear x5 o5
            generalize w5.alloc (.cells #[.int .i64 q.sport, .int .i64 q.dport, .int .u32 q.seq, .int .u32 q.ack, .int .i64 q.flags, .int .i64 q.win, .int .i64 q.urg, .slice Ao1 q.opts.length co1, .slice Ab1 q.body.length cb1] 26) = w6 at *
            generalize w5.heap.size = bx at *
            have bk := o6.cellAt k hk
            rw [HGB.out] at bk
            have zk := o6.frozenAt k
            have o7 := (o6.stored k (a.toNat : Int) (by omega) (by omega)).1
            have b7 := (o6.stored k (a.toNat : Int) (by omega) (by omega)).2
            rw [b8_back, hset.out] at o7
            have x7 := x6.step b7
            have HO7 := Go.Lib.hid o7
            clear o7 b7 x6 o6
            obtain ⟨e, xe1, xe2, xe3, xe4, xe5, xe6⟩ := xor_addr src.toNat x.toNat (by omega) (by omega) (by have := HZ.out; omega)
            have y1 := IntWalk.u32_in x (by omega)
            have y2 := IntWalk.u32_in (x * 256) (by omega)
            have y3 := u32_xor src (x * 256) hs0 (by omega) (by omega) (by omega)
            rw [show (x * 256).toNat = x.toNat * 256 by omega] at y3
            rw [show ((src.toNat : Nat) : Int) = src by omega] at xe1 xe2
            generalize src.toNat ^^^ (x.toNat * 256) = r at *
            go_upto_region 11 with fail
            generalize w6.setCell ⟨g, k, none⟩ (.int .u8 (a.toNat : Int)) = w7 at *
            go_wp2_with fail
            refine (tparse (r : Int) dst (some ⟨g, 0, none⟩) n c (putT src dst t) w7 (by omega) hd HO7.out.len HO7.out.bs (by omega) hcap1 (by omega) (fun h => by cases h)).mono ?_
            rintro e w8 ⟨Ao2, co2, Ab2, cb2, rfl, hg8⟩
            dsimp only
            have x8 := x7.call hg8.below
            have HE : Hid ((prsT (r : Int) dst (putT src dst t)).1 = 5) := Go.Lib.hid (spoiltA src r dst e t HM.out ⟨HI.out.q0, HI.out.q1⟩ ⟨HI.out.a0, HI.out.a1⟩ hs0 hd.1 (by omega) xe1 xe2 xe3 xe4 xe5)
            clear hg8 x7 HO7 y1 y2 y3 xe1 xe2 xe3 xe4 xe5 xe6 bk zk
            generalize prsT (r : Int) dst (putT src dst t) = q2 at *
            obtain ⟨f2, q2⟩ := q2
            dsimp only at *
            obtain rfl := HE.out
            go_wp2
            go_ret
            exact ⟨rfl, (x8.alloc _).below⟩
      · have hM' : mayT t = false := by simpa using hM
        clear hM
        go_wp2_with fail
        refine (tputNo src dst t Ao co Ab cb _ hM' (HI.out.at x2.below) HO.out (by omega)).mono ?_
        rintro e w3 ⟨rfl, hb3⟩
        dsimp only
        have x3 := x2.call hb3
        clear hb3 x2 c0 c1 c2 c3 c4 c5 c6 c7 c8
        go_wp2
        go_ret
        exact ⟨rfl, x3.below⟩
end Go.Proofs.Ytghgemmbbedopaa
