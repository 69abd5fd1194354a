/- The contract of package udp's Put. -/
import Derived.Test.YthikllbfkagdnaaUdpA4
import Derived.Test.YthikllbfkagdnaaUdpR3
import Derived.Deep.RegionHeld3
namespace Go.Proofs.Ythikllbfkagdnaa
open Go.ChangeShapes Go.WideShapes Go.ChangeAt Go.RowKit
set_option linter.unusedVariables false
set_option linter.unusedSimpArgs false

theorem chkU_ck (src dst : Int) (u : Ud) (h : u.nosum = false) : chkU src dst u = ckS (sumT 17 src dst (udB u 0)) := by
  unfold chkU chkU0 ckS
  rw [if_neg (by rw [h]; simp)]

set_option maxRecDepth 100000 in
set_option maxHeartbeats 1000000 in
theorem uputNo (src dst : Int) (u : Ud) (Ab : Option Addr) (cb : Nat) (w : World) (hM : mayU u = false) (hbl : u.body.length ≤ 16777216) :
    Calls Try.prog 9 #[.int .u32 src, .int .u32 dst, udV u Ab cb] w fun e w' => e = .returned (.tuple #[.slice none 0 0, .int .i64 1]) ∧ Below w.heap.size w w' := by
  have HM := Go.Lib.hid hM
  have b0 : Below w.heap.size w (w.alloc (.cells #[.int .i64 u.sport, .int .i64 u.dport, .bool u.nosum, .slice Ab u.body.length cb] 25)) := (Below.refl _ _).alloc (Nat.le_refl _) _
  clear hM
  go_enter Try.func9, Try.ntmps9
  go_wp2_with fail
  refine (umay u Ab cb _ false HM.out hbl).mono ?_
  rintro e w1 ⟨rfl, hb1⟩
  dsimp only
  go_wp2
  go_ret2
  exact ⟨rfl, b0.trans (hb1.mono b0.size)⟩

theorem uputHeadE (u : Ud) (Ab : Option Addr) (cb : Nat) (w : World) (hM : MayU u) (v : Value) (hv : udV u Ab cb = v) :
    Calls Try.prog 20 #[v] w fun e w' => ∃ g c, e = .returned (.slice (some ⟨g, 0, none⟩) 8 c) ∧ Own w' w.heap.size g 8 c (hd8U u) ∧ Below w.heap.size w w' := hv ▸ uputHead u Ab cb w hM
set_option maxRecDepth 100000 in
set_option maxHeartbeats 4000000 in
theorem uputYes (src dst : Int) (u : Ud) (Ab : Option Addr) (cb : Nat) (w : World) (hM : MayU u) (hs : 0 ≤ src ∧ src ≤ 4294967295) (hd : 0 ≤ dst ∧ dst ≤ 4294967295) (hI : UdIn w w.heap.size u Ab cb) (N : Nat) (hN : N = 8 + u.body.length) :
    Calls Try.prog 9 #[.int .u32 src, .int .u32 dst, udV u Ab cb] w fun e w' => ∃ g c, e = .returned (.tuple #[.slice (some ⟨g, 0, none⟩) N c, .int .i64 0]) ∧ Own w' w.heap.size g N c (putU src dst u) ∧ Below w.heap.size w w' := by
  obtain ⟨i0, hi, hz0, hz1, hz2⟩ := info_parts info_byte
  have HM := Go.Lib.hid ((mayU_iff u).2 hM)
  have hfit := hM.fit
  have HI := Go.Lib.hid hI
  have HS := Go.Lib.hid hM
  have m0 := udIs.made (w := w) (u := u) (A_body := Ab) (c_body := cb)
  have b0 : Below w.heap.size w (w.alloc (.cells #[.int .i64 u.sport, .int .i64 u.dport, .bool u.nosum, .slice Ab u.body.length cb] 25)) := (Below.refl _ _).alloc (Nat.le_refl _) _
  have sz : w.heap.size + 1 ≤ (w.alloc (.cells #[.int .i64 u.sport, .int .i64 u.dport, .bool u.nosum, .slice Ab u.body.length cb] 25)).heap.size := by simp
  have HNN := Go.Lib.hid hN
  have hN2 : N ≤ 65535 := by omega
  have hN3 : 8 ≤ N := by omega
  have hl16 : u.body.length ≤ 16777216 := by omega
  obtain ⟨vn, hvn⟩ : ∃ vn : Bool, u.nosum = vn := ⟨_, rfl⟩
  have HVN := Go.Lib.hid hvn
  clear hM hI hN hvn
  go_enter Try.func9, Try.ntmps9
  go_upto_region 1 with fail
  generalize w.alloc (.cells #[.int .i64 u.sport, .int .i64 u.dport, .bool u.nosum, .slice Ab u.body.length cb] 25) = W at *
  have M0 := Go.Lib.hid m0
  have K : ∀ Y, Below (w.heap.size + 1) W Y → Y.cell? ⟨w.heap.size, 0, none⟩ = some (.int .i64 u.sport) ∧ Y.cell? ⟨w.heap.size, 1, none⟩ = some (.int .i64 u.dport) ∧ Y.cell? ⟨w.heap.size, 2, none⟩ = some (.bool vn) ∧ Y.cell? ⟨w.heap.size, 3, none⟩ = some (.slice Ab u.body.length cb) ∧ Below (w.heap.size + 1) W Y := fun Y y => by
    obtain ⟨c0, c1, c2, c3⟩ := (M0.out.keep y (Nat.lt_succ_self _)).cells
    exact ⟨c0, c1, by rw [← HVN.out]; exact c2, c3, y⟩
  obtain ⟨c0, c1, c2, c3⟩ := m0.cells
  clear m0
  go_wp2_with fail
  refine (umay u Ab cb W true HM.out hl16).mono ?_
  rintro e w1 ⟨rfl, hb1⟩
  dsimp only
  have x1 : Below (w.heap.size + 1) W w1 := hb1.mono sz
  clear hb1 c0 c1 c2 c3
  go_upto_region 3 with fail
  go_region_held3 (fun Y => Y.cell? ⟨w.heap.size, 0, none⟩ = some (.int .i64 u.sport) ∧ Y.cell? ⟨w.heap.size, 1, none⟩ = some (.int .i64 u.dport) ∧ Y.cell? ⟨w.heap.size, 2, none⟩ = some (.bool vn) ∧ Y.cell? ⟨w.heap.size, 3, none⟩ = some (.slice Ab u.body.length cb) ∧ Below (w.heap.size + 1) W Y)
    (first
      | exact K _ (below_drew x1)
      | exact K _ (hx2.trans ((Below.refl _ _).grown hg (Nat.le_trans sz hx2.size) hblk))
      | exact K _ (hx.trans (hcall.mono (Nat.le_trans sz hx.size))))
    (first
      | (go_at_call 20; obtain ⟨_, _, _, _, hx⟩ := ‹_ ∧ _›; refine (uputHeadE u Ab cb _ HS.out _ (by rw [udV, HVN.out])).mono ?_; rintro e w2 ⟨g, c, rfl, hown, hcall⟩)
      | (obtain ⟨_, _, _, _, hx2⟩ := ‹_ ∧ _›; have hblk : ∀ k, (Value.slice (some ⟨g, 0, none⟩) 8 c).ownBlock = some k → w.heap.size + 1 ≤ k := (fun k hk => by have := hown.lt.1; have := hx.size; simp [Value.ownBlock] at hk; omega); refine step_append_rd rfl _ _ 23 rfl (w.heap.size + 1) 5 i0 (.int .u8 0) 1 Try.underlying23 hi hz0 hz1 hz2 rfl _ _ _ rfl (World.ownsRow.mono hown (Nat.le_trans sz hx.size)) w.heap.size Ab _ cb (u.body.map bv) rfl (by simp) HI.out.bnil ((HI.out.bs.below b0).below (hx2.mono (Nat.le_succ _))).rd (bv_one _) (by unfold maxLen; omega) (by omega) (Nat.le_trans sz hx2.size) ?_; intro v3 w3 hown3 hg hat))
  all_goals
    obtain ⟨-, -, -, -, hx3⟩ := ‹_ ∧ _›
    have hNE := HNN.out
    rw [← hNE] at hown3
    obtain ⟨g', c', rfl, _, _, _, _⟩ := own_form hown3 (by omega)
    have HO3 : Own w3 (w.heap.size + 1) g' N c' (udB u 0) := by
      unfold Own
      rw [udB_hd, List.map_append]
      exact hown3
    clear hown3 hown hcall hx hx2 hg hat hblk hNE
    have H3 := Go.Lib.hid HO3
    have hcap := HO3.cap
    unfold maxLen at hcap
    obtain ⟨hcap1, hcap2⟩ := hcap
    clear HO3
    obtain ⟨-, -, k2, -, -⟩ := K _ hx3
    cases vn with
    | true =>
      have hF : udB u 0 = putU src dst u := by unfold putU; rw [(chkU_zero src dst u).2 HVN.out]
      have H5 : Hid (Own w3 w.heap.size g' N c' (putU src dst u)) := Go.Lib.hid (World.ownsRow.mono (hF ▸ H3.out) (Nat.le_succ _))
      have hx5 := b0.trans (hx3.mono (Nat.le_succ _))
      clear H3 hx3 hF
      go_wp2
      go_ret2
      exact ⟨g', c', rfl, H5.out, hx5⟩
    | false =>
      obtain ⟨k, hk⟩ : ∃ k : Int, ckS (sumT 17 src dst (udB u 0)) = k := ⟨_, rfl⟩
      have hc := chkU_ck src dst u HVN.out
      rw [hk] at hc
      have k0 := chkU_lo src dst u
      have k1 := chkU_hi src dst u
      rw [hc] at k0 k1
      have HK := Go.Lib.hid hk
      have HC := Go.Lib.hid hc
      clear hk hc
      go_wp2_with fail
      refine (ucheck src dst (some ⟨g', 0, none⟩) N c' (udB u 0) w3.heap.size _ k HK.out hs hd H3.out.len H3.out.bs (by omega) hcap1 (by omega)).mono ?_
      rintro e w4 ⟨rfl, m4, rfl⟩
      dsimp only
      have H4 : Hid (Own (w3.drewN m4) (w.heap.size + 1) g' N c' (udB u 0)) := Go.Lib.hid H3.out
      have hx4 : Below (w.heap.size + 1) W (w3.drewN m4) := below_dn hx3 m4
      clear H3 hx3 k2
      generalize w3.drewN m4 = w4 at *
      go_wp2_with fail
      refine (uputWord w4 (w.heap.size + 1) g' N c' _ H4.out 6 _ rfl (by omega) (by omega) k k0 k1).mono ?_
      rintro e w5 ⟨rfl, o5, b5⟩
      dsimp only
      rw [ud_set u k] at o5
      have hF : udB u k = putU src dst u := by unfold putU; rw [HC.out]
      rw [hF] at o5
      have H5 := Go.Lib.hid (World.ownsRow.mono o5 (Nat.le_succ _))
      have hx5 := b0.trans ((hx4.trans b5).mono (Nat.le_succ _))
      clear o5 hx4 b5 H4
      go_wp2
      go_ret2
      exact ⟨g', c', rfl, H5.out, hx5⟩
/-- what the document's Put has, package udp's has. -/
theorem uputU (src dst : Int) (u : Ud) (Ab : Option Addr) (cb : Nat) (L : List UInt8) (n : Nat) (r : Int) (hL : PutUL src dst u L n r) (w : World) (hs : 0 ≤ src ∧ src ≤ 4294967295) (hd : 0 ≤ dst ∧ dst ≤ 4294967295)
    (hI : UdIn w w.heap.size u Ab cb) (hbl : u.body.length ≤ 16777216) :
    Calls Try.prog 9 #[.int .u32 src, .int .u32 dst, udV u Ab cb] w (PutPost L n r w) := by
  by_cases hm : mayU u = true
  · have M := (mayU_iff u).1 hm
    obtain ⟨rfl, hn, rfl⟩ := hL.yes M
    refine (uputYes src dst u Ab cb w M hs hd hI n hn).mono ?_
    rintro e w' ⟨g, c, rfl, ho, hb⟩
    exact PutPost.of _ c rfl ho.bs hb
  · have hm' : mayU u = false := by simpa using hm
    obtain ⟨rfl, rfl, rfl⟩ := hL.no (fun M => hm ((mayU_iff u).2 M))
    refine (uputNo src dst u Ab cb w hm' hbl).mono ?_
    rintro e w' ⟨rfl, hb⟩
    exact PutPost.of _ 0 rfl Bs.nil_ hb
end Go.Proofs.Ythikllbfkagdnaa
