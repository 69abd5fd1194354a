/- Statements of layer 5, walked: a datagram of which one byte was changed is told to be none, or has no sum. -/
import Derived.Test.YthikllbfkagdnaaUdpL
namespace Go.Proofs.Ythikllbfkagdnaa
open Go.ChangeShapes Go.WideShapes Go.ChangeAt Go.RowKit
set_option linter.unusedVariables false
set_option linter.unusedSimpArgs false

theorem ub8_back (b : UInt8) : b8 (b.toNat : Int) = b := by
  apply UInt8.toNat_inj.1
  have := b8_is (b.toNat : Int) (by omega) (by have := b.toNat_lt; omega)
  omega

set_option maxRecDepth 100000 in
set_option maxHeartbeats 4000000 in
theorem spoilsU (src dst : Int) (u : Ud) (Ab : Option Addr) (cb : Nat) (at_ x : Int) (hs : 0 ≤ src ∧ src ≤ 4294967295) (hd : 0 ≤ dst ∧ dst ≤ 4294967295) (hx0 : 0 ≤ x) (hx1 : x ≤ 255) (w : World) (h : UdIn w w.heap.size u Ab cb) :
    Calls Try.prog 6 #[.int .u32 src, .int .u32 dst, udV u Ab cb, .int .i64 at_, .int .u8 x] w fun e w' => e = .returned (.bool true) ∧ Below w.heap.size w w' := by
  have HI := Go.Lib.hid h
  have bl := h.blen
  have bc := h.bcap
  clear h
  go_enter Try.func6, Try.ntmps6
  go_wp2_with fail
  refine (awakeU _).mono ?_
  rintro e w1 ⟨rfl, hb1⟩
  dsimp only
  have x1 := (Bx.start (u := u) (Ab := Ab) (cb := cb) (w := w)).call hb1
  clear hb1
  obtain ⟨c0, c1, c2, c3⟩ := x1.cells
  have fz := x1.fz 2
  by_cases h3 : (3000 : Int) < (u.body.length : Int)
  · go_wp2
    go_ret
    exact ⟨rfl, x1.below⟩
  by_cases hz : x = 0
  · have t0 : (x == 0) = true := by simpa using hz
    have t1 : ¬ (3000 : Int) < (u.body.length : Int) := h3
    clear hz
    go_wp2
    go_ret
    exact ⟨rfl, x1.below⟩
  have t0 : (x == 0) = false := by simpa using hz
  have HZ := Go.Lib.hid hz
  clear hz
  obtain ⟨v, hv⟩ : ∃ v : Ud, v = ⟨u.sport, u.dport, false, u.body⟩ := ⟨_, rfl⟩
  have x2 := x1.sum hv
  have HIv : Hid (∀ Y, Below w.heap.size w Y → UdIn Y Y.heap.size v Ab cb) := Go.Lib.hid (fun Y y => by have := HI.out.at y; subst hv; exact ⟨this.blen, this.bcap, this.bnil, this.bs⟩)
  have HVN : Hid (v.nosum = false) := Go.Lib.hid (by rw [hv])
  have hvl : v.body.length = u.body.length := by rw [hv]
  have hl3 : v.body.length ≤ 3000 := by omega
  clear hv hvl
  go_upto_region 6 with fail
  clear x1 c0 c1 c2 c3 fz
  generalize w1.setCell ⟨w.heap.size, 2, none⟩ (.bool false) = w2 at *
  obtain ⟨c0, c1, c2, c3⟩ := x2.cells
  by_cases hM : mayU v = true
  · have M := (mayU_iff v).1 hM
    have HM := Go.Lib.hid M
    obtain ⟨n, hn⟩ : ∃ n : Nat, n = 8 + v.body.length := ⟨_, rfl⟩
    have HN := Go.Lib.hid hn
    have hn65 : n ≤ 65535 := by omega
    have hn8 : 8 ≤ n := by omega
    clear hM hn M
    go_wp2_with fail
    refine (uputYes src dst v Ab cb _ HM.out hs hd (HIv.out _ x2.below) n HN.out).mono ?_
    rintro e w3 ⟨g, c, rfl, hown, hb3⟩
    dsimp only
    have x3 := x2.call hb3
    have hown : Own w3 (w.heap.size + 1) g n c (putU src dst v) := World.ownsRow.mono hown x2.size
    clear hb3 x2 c0 c1 c2 c3
    have hat : at_ < 0 ∨ (0 ≤ at_ ∧ (n : Int) ≤ at_) ∨ (0 ≤ at_ ∧ at_ < (n : Int) ∧ (at_ = 4)) ∨ (0 ≤ at_ ∧ at_ < (n : Int) ∧ at_ = 5) ∨ ∃ k : Nat, at_ = (k : Int) ∧ k < n ∧ k ≠ 4 ∧ k ≠ 5 := by
      by_cases h0 : 0 ≤ at_ ∧ at_ < (n : Int) ∧ at_ ≠ 4 ∧ at_ ≠ 5
      · exact .inr (.inr (.inr (.inr ⟨at_.toNat, by omega, by omega, by omega, by omega⟩)))
      · omega
    rcases hat with h0 | ⟨h0, h1⟩ | ⟨h0, h1, rfl⟩ | ⟨h0, h1, rfl⟩ | ⟨k, rfl, hk, hk4, hk5⟩
    · go_wp2
      go_ret
      exact ⟨rfl, x3.below⟩
    · go_wp2
      go_ret
      exact ⟨rfl, x3.below⟩
    · go_wp2
      go_ret
      exact ⟨rfl, x3.below⟩
    · go_wp2
      go_ret
      exact ⟨rfl, x3.below⟩
    · have HOW : Hid (Own w3 (w.heap.size + 1) g n c (putU src dst v)) := Go.Lib.hid hown
      have t4 : ((k : Int) == 4) = false := by simp; omega
      have t5 : ((k : Int) == 5) = false := by simp; omega
      have hlen := hown.len
      have hkl : k < (putU src dst v).length := by omega
      have hgk : g8 (putU src dst v) k = (((putU src dst v)[k]'hkl).toNat : Int) := g8_at _ _ _
      have bk := hown.cellAt k hk
      have zk := hown.frozenAt k
      have ik : (k : Int) < (n : Int) := by omega
      have hxor := xor_walk ((putU src dst v)[k]'hkl) x hx0 hx1
      have hsp := Go.Lib.hid (spoiltU src dst v HM.out HVN.out k ((putU src dst v)[k]'hkl ^^^ b8 x) (by have := HN.out; omega) hk4 hk5 (xor_other _ x HZ.out hx0 hx1))
      have hl1 := ((putU src dst v)[k]'hkl).toNat_lt
      have hl2 := ((putU src dst v)[k]'hkl ^^^ b8 x).toNat_lt
      rw [hgk] at bk
      clear hgk hown
      generalize (putU src dst v)[k]'hkl ^^^ b8 x = b at *
      generalize (putU src dst v)[k]'hkl = a at *
      have o4 := (HOW.out.stored k (b.toNat : Int) (by omega) (by omega)).1
      have b4 := (HOW.out.stored k (b.toNat : Int) (by omega) (by omega)).2
      rw [ub8_back] at o4
      have HO4 := Go.Lib.hid o4
      have x4 := x3.step b4
      have hcap := HOW.out.cap
      unfold maxLen at hcap
      obtain ⟨hcap1, hcap2⟩ := hcap
      clear o4 b4 HOW hk4 hk5
      go_upto_region 10 with fail
      clear x3 bk
      generalize w3.setCell ⟨g, k, none⟩ (.int .u8 (b.toNat : Int)) = w4 at *
      have hg4 := HO4.out.lt.2
      go_wp2_with fail
      refine (uparse src dst (some ⟨g, 0, none⟩) n c ((putU src dst v).set k b) w4 hs hd HO4.out.len HO4.out.bs (by omega) hcap1 (by omega)).mono ?_
      rintro e w5 ⟨Ab1, cb1, rfl, hg5⟩
      dsimp only
      have x5 := x4.call hg5.below
      have o5 := HO4.out.below hg5.below
      have e6 := o5.cellAt 6 (by omega)
      have e7 := o5.cellAt 7 (by omega)
      have hg5 := Nat.lt_of_lt_of_le hg4 hg5.below.size
      have HQ := hsp
      clear hsp x4 HO4 hxor o5
      generalize prsU src dst ((putU src dst v).set k b) = q at *
      generalize g8 ((putU src dst v).set k b) 6 = y6 at *
      generalize g8 ((putU src dst v).set k b) 7 = y7 at *
      obtain ⟨f, sp, dp, ns, bd⟩ := q
      dsimp only at *
      have x6 := x5.alloc (.cells #[.int .i64 sp, .int .i64 dp, .bool ns, .slice Ab1 bd.length cb1] 25)
      by_cases hf : f = 0
      · have tf : (f != 0) = false := by simpa using hf
        obtain ⟨hq1, rfl, rfl⟩ := HQ.out.resolve_left (fun h => h hf)
        clear hf
        subst hq1
        go_wp2
        go_ret
        exact ⟨rfl, x6.below⟩
      · have tf : (f != 0) = true := by simpa using hf
        clear hf
        go_wp2
        go_ret
        exact ⟨rfl, x6.below⟩
  · have hM' : mayU v = false := by simpa using hM
    clear hM
    go_wp2_with fail
    refine (uputNo src dst v Ab cb _ hM' (by omega)).mono ?_
    rintro e w3 ⟨rfl, hb3⟩
    dsimp only
    have x3 := x2.call hb3
    clear hb3 x2 c0 c1 c2 c3
    go_wp2
    go_ret
    exact ⟨rfl, x3.below⟩
end Go.Proofs.Ythikllbfkagdnaa
