/- Contracts of the document's own answers for package udp: the sum, Put, Same. -/
import Derived.Test.YthikllbfkagdnaaUdpR
namespace Go.Proofs.Ythikllbfkagdnaa
open Go.ChangeShapes Go.WideShapes Go.ChangeAt Go.RowKit
set_option linter.unusedVariables false

set_option maxRecDepth 100000 in
set_option maxHeartbeats 1000000 in
theorem rsumU (src dst : Int) (A : Option Addr) (n c : Nat) (l : List UInt8) (B : Nat) (w : World) (s : Int) (h6 : sumT 17 src dst l = s) (hs : 0 ≤ src ∧ src ≤ 4294967295) (hd : 0 ≤ dst ∧ dst ≤ 4294967295) (hn : l.length = n) (h : Bs w B A l) (hB : B ≤ w.heap.size) (hl : n ≤ 16777216) (hlc : n ≤ c) :
    Calls Try.prog 23 #[.int .u32 src, .int .u32 dst, .slice A n c] w fun e w' => e = .returned (.int .i64 s) ∧ Below w.heap.size w w' := by
  have HS : Hid (fo (pseudo src dst 17 (n : Int) + fo (tot l)) = s) := by show _ = _; rw [← h6]; unfold sumT; rw [hn]
  have HN := Go.Lib.hid hn
  have HB := Go.Lib.hid h
  clear hn h h6
  go_enter Try.func23, Try.ntmps23
  go_wp2_with fail
  refine (rpseudo src dst 17 (n : Int) hs hd _).mono ?_
  rintro e w1 ⟨rfl, hb1⟩
  dsimp only
  go_wp2_with fail
  refine (rsum_n A n c l B _ HN.out (HB.out.below (hb1.mono hB)) (Nat.le_trans hB hb1.size) hl hlc).mono ?_
  rintro e w2 ⟨rfl, hb2⟩
  dsimp only
  have p0 : 0 ≤ pseudo src dst 17 (n : Int) := fo_lo _
  have p1 : pseudo src dst 17 (n : Int) ≤ 65535 := fo_hi _
  have t0 := fo_lo (tot l)
  have t1 := fo_hi (tot l)
  go_wp2_with fail
  refine (rjoin _ _ ⟨p0, p1⟩ ⟨t0, t1⟩ _).mono ?_
  rintro e w3 ⟨rfl, rfl⟩
  dsimp only
  have q0 := fo_lo (pseudo src dst 17 (n : Int) + fo (tot l))
  have q1 := fo_hi (pseudo src dst 17 (n : Int) + fo (tot l))
  have e1 := IntWalk.i64_in (fo (pseudo src dst 17 (n : Int) + fo (tot l))) (by omega)
  go_wp2
  go_ret
  exact ⟨ret_int (by first | exact HS.out | (rw [e1]; exact HS.out)), hb1.trans (hb2.mono hb1.size)⟩

theorem rlaidUE (u : Ud) (Ab : Option Addr) (cb : Nat) (ck : Int) (n : Nat) (hn : n = 8 + u.body.length) (w : World) (hM : MayU u) (k0 : 0 ≤ ck) (k1 : ck ≤ 65535) (hI : UdIn w w.heap.size u Ab cb) (v : Value) (hv : udV u Ab cb = v) :
    Calls Try.prog 24 #[v, .int .i64 ck] w fun e w' => ∃ g c, e = .returned (.slice (some ⟨g, 0, none⟩) n c) ∧ Own w' w.heap.size g n c (udB u ck) ∧ Below w.heap.size w w' := hv ▸ rlaidU u Ab cb ck n hn w hM k0 k1 hI
/-- what is put, and whether. -/
structure PutUL (src dst : Int) (u : Ud) (L : List UInt8) (n : Nat) (r : Int) : Prop where
  len : L.length = n
  small : n ≤ 65535
  way : (mayU u = true ∧ L = putU src dst u ∧ r = 0) ∨ (mayU u = false ∧ L = [] ∧ r = 1)
theorem putUL (src dst : Int) (u : Ud) : ∃ L n r, PutUL src dst u L n r := by
  by_cases h : mayU u = true
  · have M := (mayU_iff u).1 h
    refine ⟨putU src dst u, _, 0, rfl, ?_, .inl ⟨h, rfl, rfl⟩⟩
    have := M.fit
    rw [putU_length]; omega
  · exact ⟨[], 0, 1, rfl, by omega, .inr ⟨by simpa using h, rfl, rfl⟩⟩
theorem PutUL.no {src dst : Int} {u : Ud} {L : List UInt8} {n : Nat} {r : Int} (h : PutUL src dst u L n r) (hm : ¬ MayU u) : L = [] ∧ n = 0 ∧ r = 1 := by
  rcases h.way with ⟨a, _⟩ | ⟨_, rfl, rfl⟩
  · exact absurd ((mayU_iff u).1 a) hm
  · have := h.len; simp at this; exact ⟨rfl, this.symm, rfl⟩
theorem PutUL.yes {src dst : Int} {u : Ud} {L : List UInt8} {n : Nat} {r : Int} (h : PutUL src dst u L n r) (hm : MayU u) : L = putU src dst u ∧ n = 8 + u.body.length ∧ r = 0 := by
  rcases h.way with ⟨_, rfl, rfl⟩ | ⟨a, _⟩
  · have := h.len; rw [putU_length] at this; exact ⟨rfl, this.symm, rfl⟩
  · rw [(mayU_iff u).2 hm] at a; cases a
/-- ways in which a datagram may not be put. -/
theorem mayU_not (u : Ud) (h : ¬ MayU u) : u.sport < 0 ∨ (0 ≤ u.sport ∧ 65535 < u.sport) ∨ (0 ≤ u.sport ∧ u.sport ≤ 65535 ∧ u.dport < 0) ∨ (0 ≤ u.sport ∧ u.sport ≤ 65535 ∧ 0 ≤ u.dport ∧ 65535 < u.dport) ∨ (0 ≤ u.sport ∧ u.sport ≤ 65535 ∧ 0 ≤ u.dport ∧ u.dport ≤ 65535 ∧ 65527 < (u.body.length : Int)) := by
  by_cases h1 : 0 ≤ u.sport ∧ u.sport ≤ 65535 ∧ 0 ≤ u.dport ∧ u.dport ≤ 65535
  · have : ¬ u.body.length ≤ 65527 := fun h2 => h ⟨h1.1, h1.2.1, h1.2.2.1, h1.2.2.2, h2⟩
    omega
  · omega

set_option maxRecDepth 100000 in
set_option maxHeartbeats 4000000 in
theorem rputU (src dst : Int) (u : Ud) (Ab : Option Addr) (cb : Nat) (L : List UInt8) (n : Nat) (r : Int) (hL : PutUL src dst u L n r) (w : World) (hs : 0 ≤ src ∧ src ≤ 4294967295) (hd : 0 ≤ dst ∧ dst ≤ 4294967295)
    (hI : UdIn w w.heap.size u Ab cb) :
    Calls Try.prog 10 #[.int .u32 src, .int .u32 dst, udV u Ab cb] w (PutPost L n r w) := by
  have HI := Go.Lib.hid hI
  have HL := Go.Lib.hid hL
  have bcap := hI.bcap
  have blen := hI.blen
  have m0 := udIs.made (w := w) (u := u) (A_body := Ab) (c_body := cb)
  have b0 : Below w.heap.size w (w.alloc (.cells #[.int .i64 u.sport, .int .i64 u.dport, .bool u.nosum, .slice Ab u.body.length cb] 25)) := (Below.refl _ _).alloc (Nat.le_refl _) _
  have s0 : w.heap.size < (w.alloc (.cells #[.int .i64 u.sport, .int .i64 u.dport, .bool u.nosum, .slice Ab u.body.length cb] 25)).heap.size := by simp
  clear hI hL
  go_enter Try.func10, Try.ntmps10
  go_upto_region 1 with fail
  generalize w.alloc (.cells #[.int .i64 u.sport, .int .i64 u.dport, .bool u.nosum, .slice Ab u.body.length cb] 25) = W at *
  obtain ⟨c0, c1, c2, c3⟩ := m0.cells
  by_cases hM : MayU u
  · have HM := Go.Lib.hid hM
    obtain ⟨rfl, hn, rfl⟩ := HL.out.yes hM
    obtain ⟨f1, f2, f3, f4, fit⟩ := hM
    have HN := Go.Lib.hid hn
    have n16 : n ≤ 16777216 := by omega
    have I1 := Go.Lib.hid ((HI.out.below b0).more (Nat.le_of_lt s0))
    clear hn
    obtain ⟨vn, hvn⟩ : ∃ vn : Bool, u.nosum = vn := ⟨_, rfl⟩
    have HVN := Go.Lib.hid hvn
    rw [hvn] at c2
    clear hvn
    cases vn with
    | true =>
      have hck : Hid (chkU src dst u = 0) := Go.Lib.hid (by unfold chkU; rw [HVN.out]; rfl)
      go_wp2_with fail
      refine (rlaidUE u Ab cb 0 n HN.out _ HM.out (by decide) (by decide) I1.out _ (by show udV u Ab cb = _; rw [udV, HVN.out])).mono ?_
      rintro e w2 ⟨g2, kc2, rfl, hown2, hb2⟩
      dsimp only
      have b2 := b0.trans (hb2.mono (Nat.le_of_lt s0))
      have hF : udB u 0 = putU src dst u := by unfold putU; rw [hck.out]
      rw [hF] at hown2
      go_wp2
      go_ret2
      exact PutPost.of _ kc2 rfl hown2.bs b2
    | false =>
      go_wp2_with fail
      refine (rlaidUE u Ab cb 0 n HN.out _ HM.out (by decide) (by decide) I1.out _ (by show udV u Ab cb = _; rw [udV, HVN.out])).mono ?_
      rintro e w2 ⟨g2, kc2, rfl, hown2, hb2⟩
      dsimp only
      have b2 := b0.trans (hb2.mono (Nat.le_of_lt s0))
      have m2 := m0.call hb2 s0
      have s2 : w.heap.size < w2.heap.size := Nat.lt_of_lt_of_le s0 hb2.size
      obtain ⟨s, hsum⟩ : ∃ s : Int, sumT 17 src dst (udB u 0) = s := ⟨_, rfl⟩
      have y0 := sumT_lo 17 src dst (udB u 0)
      have y1 := sumT_hi 17 src dst (udB u 0)
      rw [hsum] at y0 y1
      have HS := Go.Lib.hid hsum
      have LEN : Hid ((udB u 0).length = n) := Go.Lib.hid (by rw [udB_length, HN.out])
      clear hsum hb2 m0 I1
      go_wp2_with fail
      refine (rsumU src dst (some ⟨g2, 0, none⟩) n kc2 (udB u 0) w2.heap.size _ s HS.out hs hd LEN.out hown2.bs (Nat.le_refl _) n16 hown2.cap.1).mono ?_
      rintro e w3 ⟨rfl, hb3⟩
      dsimp only
      have b3 := b2.trans (hb3.mono (Nat.le_of_lt s2))
      have m3 := m2.call hb3 s2
      have s3 : w.heap.size < w3.heap.size := Nat.lt_of_lt_of_le s2 hb3.size
      have I3 := Go.Lib.hid ((HI.out.below b3).more (Nat.le_of_lt s3))
      clear hown2 hb3 m2 b2 c0 c1 c2 c3
      obtain ⟨c0, c1, c2, c3⟩ := m3.cells
      have hvn := HVN.out
      rw [hvn] at c2
      clear hvn
      by_cases hz : 65535 - s = 0
      · have t1 : (65535 - s == 0) = true := by simpa using hz
        have hck : Hid (chkU src dst u = 65535) := Go.Lib.hid (by unfold chkU chkU0; rw [HVN.out, HS.out, if_neg (by simp), if_pos hz])
        clear hz
        go_wp2_with fail
        refine (rlaidUE u Ab cb 65535 n HN.out _ HM.out (by decide) (by decide) I3.out _ (by show udV u Ab cb = _; rw [udV, HVN.out])).mono ?_
        rintro e w4 ⟨g4, kc4, rfl, hown4, hb4⟩
        dsimp only
        have b4 := b3.trans (hb4.mono (Nat.le_of_lt s3))
        have hF : udB u 65535 = putU src dst u := by unfold putU; rw [hck.out]
        rw [hF] at hown4
        go_wp2
        go_ret2
        exact PutPost.of _ kc4 rfl hown4.bs b4
      · have t1 : (65535 - s == 0) = false := by simpa using hz
        have hck : Hid (chkU src dst u = 65535 - s) := Go.Lib.hid (by unfold chkU chkU0; rw [HVN.out, HS.out, if_neg (by simp), if_neg hz])
        have k0 : 0 ≤ 65535 - s := by omega
        have k1 : 65535 - s ≤ 65535 := by omega
        clear hz
        go_wp2_with fail
        refine (rlaidUE u Ab cb (65535 - s) n HN.out _ HM.out k0 k1 I3.out _ (by show udV u Ab cb = _; rw [udV, HVN.out])).mono ?_
        rintro e w4 ⟨g4, kc4, rfl, hown4, hb4⟩
        dsimp only
        have b4 := b3.trans (hb4.mono (Nat.le_of_lt s3))
        have hF : udB u (65535 - s) = putU src dst u := by unfold putU; rw [hck.out]
        rw [hF] at hown4
        go_wp2
        go_ret2
        exact PutPost.of _ kc4 rfl hown4.bs b4
  · obtain ⟨rfl, rfl, rfl⟩ := HL.out.no hM
    have hx := mayU_not u hM
    clear hM
    rcases hx with g1 | ⟨g1, g2⟩ | ⟨g1, g2, g3⟩ | ⟨g1, g2, g3, g4⟩ | ⟨g1, g2, g3, g4, g5⟩
    all_goals
      go_wp2
      go_ret2
      exact PutPost.of _ 0 rfl Bs.nil_ b0
end Go.Proofs.Ythikllbfkagdnaa
