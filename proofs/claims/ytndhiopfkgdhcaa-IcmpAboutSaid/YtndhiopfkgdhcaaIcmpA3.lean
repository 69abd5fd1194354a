/- The contract of package icmp's Put. -/
import Derived.Test.YtndhiopfkgdhcaaIcmpA2
import Derived.Test.YtndhiopfkgdhcaaCsumA2
import Derived.Deep.RegionHeld3
namespace Go.Proofs.Ytndhiopfkgdhcaa
open Go.ChangeShapes Go.WideShapes Go.ChangeAt Go.RowKit
set_option linter.unusedVariables false
set_option linter.unusedSimpArgs false

theorem iof (A : Option Addr) (n c : Nat) (l : List UInt8) (B : Nat) (w : World) (k : Int) (hk : 65535 - fo (tot l) = k) (hn : l.length = n) (h : Bs w B A l) (hl : n ≤ 16777216) (hlc : n ≤ c) (hc : c ≤ 9223372036854775807) :
    Calls Try.prog 33 #[.slice A n c] w fun e w' => e = .returned (.int .u16 k) ∧ ∃ n, w' = w.drewN n := by
  subst hn hk
  exact cof A c l B w h hl hlc (by unfold maxLen; omega)

set_option maxRecDepth 100000 in
set_option maxHeartbeats 1000000 in
theorem iputNo (m : Ic) (Ab : Option Addr) (cb : Nat) (w : World) (hM : ¬ MayI m) (hbl : m.body.length ≤ 16777216) :
    Calls Try.prog 9 #[icV m Ab cb] w fun e w' => e = .returned (.tuple #[.slice none 0 0, .int .i64 1]) ∧ Below w.heap.size w w' := by
  have b0 : Below w.heap.size w (w.alloc (icO m Ab cb)) := (Below.refl _ _).alloc (Nat.le_refl _) _
  obtain ⟨x, hx⟩ : ∃ x : Bool, upB m.type 255 = x := ⟨_, rfl⟩
  obtain ⟨y, hy⟩ : ∃ y : Bool, upB m.code 255 = y := ⟨_, rfl⟩
  have HX := Go.Lib.hid hx
  have HY := Go.Lib.hid hy
  have hz : x = true → y = true → (65535 : Int) < 8 + (m.body.length : Int) := fun h1 h2 => by
    subst h1 h2
    unfold upB at hx hy
    simp only [Bool.and_eq_true, decide_eq_true_eq] at hx hy
    by_cases h : m.body.length ≤ 65527
    · exact absurd ⟨hx.1, hx.2, hy.1, hy.2, h⟩ hM
    · omega
  clear hx hy hM
  have e8 := IntWalk.i64_in ((8 : Int) + (m.body.length : Int)) (by omega)
  cases x
  · clear hz
    go_enter Try.func9, Try.ntmps9
    go_wp2_with fail
    refine (iup_b _ _ false HX.out _).mono ?_
    rintro e w' ⟨rfl, rfl⟩
    dsimp only
    go_wp2
    go_ret2
    exact ⟨rfl, b0⟩
  cases y
  · clear hz
    go_enter Try.func9, Try.ntmps9
    go_wp2_with fail
    refine (iup_b _ _ true HX.out _).mono ?_
    rintro e w' ⟨rfl, rfl⟩
    dsimp only
    go_wp2_with fail
    refine (iup_b _ _ false HY.out _).mono ?_
    rintro e w' ⟨rfl, rfl⟩
    dsimp only
    go_wp2
    go_ret2
    exact ⟨rfl, b0⟩
  · have hz := hz rfl rfl
    go_enter Try.func9, Try.ntmps9
    go_wp2_with fail
    refine (iup_b _ _ true HX.out _).mono ?_
    rintro e w' ⟨rfl, rfl⟩
    dsimp only
    go_wp2_with fail
    refine (iup_b _ _ true HY.out _).mono ?_
    rintro e w' ⟨rfl, rfl⟩
    dsimp only
    go_wp2
    go_ret2
    exact ⟨rfl, b0⟩

set_option maxRecDepth 100000 in
set_option maxHeartbeats 4000000 in
theorem iputYes (m : Ic) (Ab : Option Addr) (cb : Nat) (w : World) (hM : MayI m) (hI : IcIn w w.heap.size m Ab cb) (N : Nat) (hN : N = 8 + m.body.length) :
    Calls Try.prog 9 #[icV m Ab cb] w fun e w' => ∃ g c, e = .returned (.tuple #[.slice (some ⟨g, 0, none⟩) N c, .int .i64 0]) ∧ Own w' w.heap.size g N c (putI m) ∧ Below w.heap.size w w' := by
  obtain ⟨i0, hi, hz0, hz1, hz2⟩ := info_parts info_byte
  have HX : Hid (upB m.type 255 = true) := Go.Lib.hid (by unfold upB; simp [hM.t0, hM.t1])
  have HY : Hid (upB m.code 255 = true) := Go.Lib.hid (by unfold upB; simp [hM.c0, hM.c1])
  have hfit := hM.fit
  have HI := Go.Lib.hid hI
  have HS := Go.Lib.hid hM
  have m0 := icIs.made (w := w) (m := m) (A_body := Ab) (c_body := cb)
  have b0 : Below w.heap.size w (w.alloc (icO m Ab cb)) := (Below.refl _ _).alloc (Nat.le_refl _) _
  have sz : w.heap.size + 1 ≤ (w.alloc (icO m Ab cb)).heap.size := by simp
  have HNN := Go.Lib.hid hN
  have hN2 : N ≤ 65535 := by omega
  have hN3 : 8 ≤ N := by omega
  have e8 := IntWalk.i64_in ((8 : Int) + (m.body.length : Int)) (by omega)
  have e9 : ¬ (65535 : Int) < 8 + (m.body.length : Int) := by omega
  obtain ⟨k, hk⟩ : ∃ k : Int, 65535 - fo (tot (icB m 0)) = k := ⟨_, rfl⟩
  have k0 : 0 ≤ k := hk ▸ chkI_lo m
  have k1 : k ≤ 65535 := hk ▸ chkI_hi m
  have HF : Hid (icB m k = putI m) := Go.Lib.hid (by rw [← hk]; rfl)
  have HK := Go.Lib.hid hk
  clear hM hI hN hk
  go_enter Try.func9, Try.ntmps9
  go_upto_region 1 with fail
  generalize w.alloc (.cells #[.int .i64 m.type, .int .i64 m.code, .int .u32 m.rest, .slice Ab m.body.length cb] 25) = W at *
  have M0 := Go.Lib.hid m0
  have K : ∀ Y, Below (w.heap.size + 1) W Y → Y.cell? ⟨w.heap.size, 0, none⟩ = some (.int .i64 m.type) ∧ Y.cell? ⟨w.heap.size, 1, none⟩ = some (.int .i64 m.code) ∧ Y.cell? ⟨w.heap.size, 2, none⟩ = some (.int .u32 m.rest) ∧ Y.cell? ⟨w.heap.size, 3, none⟩ = some (.slice Ab m.body.length cb) ∧ Below (w.heap.size + 1) W Y := fun Y y => by
    obtain ⟨c0, c1, c2, c3⟩ := (M0.out.keep y (Nat.lt_succ_self _)).cells
    exact ⟨c0, c1, c2, c3, y⟩
  obtain ⟨c0, c1, c2, c3⟩ := m0.cells
  clear m0
  go_wp2_with fail
  refine (iup_b _ _ true HX.out _).mono ?_
  rintro e w' ⟨rfl, rfl⟩
  dsimp only
  go_wp2_with fail
  refine (iup_b _ _ true HY.out _).mono ?_
  rintro e w' ⟨rfl, rfl⟩
  dsimp only
  have x1 : Below (w.heap.size + 1) W W := Below.refl _ _
  go_upto_region 3 with fail
  clear c0 c1 c2 c3
  go_region_held3 (fun Y => Y.cell? ⟨w.heap.size, 0, none⟩ = some (.int .i64 m.type) ∧ Y.cell? ⟨w.heap.size, 1, none⟩ = some (.int .i64 m.code) ∧ Y.cell? ⟨w.heap.size, 2, none⟩ = some (.int .u32 m.rest) ∧ Y.cell? ⟨w.heap.size, 3, none⟩ = some (.slice Ab m.body.length cb) ∧ Below (w.heap.size + 1) W Y)
    (first
      | exact K _ (below_drew x1)
      | exact K _ (hx2.trans ((Below.refl _ _).grown hg (Nat.le_trans sz hx2.size) hblk))
      | exact K _ (hx.trans (hcall.mono (Nat.le_trans sz hx.size))))
    (first
      | (go_at_call 31; obtain ⟨_, _, _, _, hx⟩ := ‹_ ∧ _›; refine (iputHead m Ab cb _ HS.out HI.out.r0 HI.out.r1).mono ?_; rintro e w2 ⟨g, c, rfl, hown, hcall⟩)
      | (obtain ⟨_, _, _, _, hx2⟩ := ‹_ ∧ _›; have hblk : ∀ k, (Value.slice (some ⟨g, 0, none⟩) 8 c).ownBlock = some k → w.heap.size + 1 ≤ k := (fun k hk => by have := hown.lt.1; have := hx.size; simp [Value.ownBlock] at hk; omega); refine step_append_rd rfl _ _ 23 rfl (w.heap.size + 1) 5 i0 (.int .u8 0) 1 Try.underlying23 hi hz0 hz1 hz2 rfl _ _ _ rfl (World.ownsRow.mono hown (Nat.le_trans sz hx.size)) w.heap.size Ab _ cb (m.body.map bv) rfl (by simp) HI.out.bnil ((HI.out.bs.below b0).below (hx2.mono (Nat.le_succ _))).rd (bv_one _) (by unfold maxLen; omega) (by omega) (Nat.le_trans sz hx2.size) ?_; intro v3 w3 hown3 hg hat))
  all_goals
    obtain ⟨-, -, -, -, hx3⟩ := ‹_ ∧ _›
    have hNE := HNN.out
    rw [← hNE] at hown3
    obtain ⟨g', c', rfl, _, _, _, _⟩ := own_form hown3 (by omega)
    have HO3 : Own w3 (w.heap.size + 1) g' N c' (icB m 0) := by
      unfold Own
      rw [icB_hd, List.map_append]
      exact hown3
    clear hown3 hown hcall hx hx2 hg hat hblk hNE
    have H3 := Go.Lib.hid HO3
    have hcap := HO3.cap
    unfold maxLen at hcap
    obtain ⟨hcap1, hcap2⟩ := hcap
    clear HO3
    go_wp2_with fail
    refine (iof (some ⟨g', 0, none⟩) N c' (icB m 0) w3.heap.size _ k HK.out H3.out.len H3.out.bs (by omega) hcap1 (by omega)).mono ?_
    rintro e w4 ⟨rfl, m4, rfl⟩
    dsimp only
    have H4 : Hid (Own (w3.drewN m4) (w.heap.size + 1) g' N c' (icB m 0)) := Go.Lib.hid H3.out
    have hx4 : Below (w.heap.size + 1) W (w3.drewN m4) := below_dn hx3 m4
    clear H3 hx3
    generalize w3.drewN m4 = w4 at *
    go_wp2_with fail
    refine (iputWord w4 (w.heap.size + 1) g' N c' _ H4.out 2 _ rfl (by omega) (by omega) k k0 k1).mono ?_
    rintro e w5 ⟨rfl, o5, b5⟩
    dsimp only
    rw [ic_set m k, HF.out] at o5
    have H5 := Go.Lib.hid (World.ownsRow.mono o5 (Nat.le_succ _))
    have hx5 := b0.trans ((hx4.trans b5).mono (Nat.le_succ _))
    clear o5 hx4 b5 H4
    go_wp2
    go_ret2
    exact ⟨g', c', rfl, H5.out, hx5⟩
/-- what the document's Put has, package icmp's has. -/
theorem iputI (m : Ic) (Ab : Option Addr) (cb : Nat) (L : List UInt8) (n : Nat) (r : Int) (hL : PutIL m L n r) (w : World) (hI : IcIn w w.heap.size m Ab cb) (hbl : m.body.length ≤ 16777216) :
    Calls Try.prog 9 #[icV m Ab cb] w (PutPost L n r w) := by
  by_cases hm : MayI m
  · obtain ⟨rfl, hn, rfl⟩ := hL.yes hm
    refine (iputYes m Ab cb w hm hI n hn).mono ?_
    rintro e w' ⟨g, c, rfl, ho, hb⟩
    exact PutPost.of _ c rfl ho.bs hb
  · obtain ⟨rfl, rfl, rfl⟩ := hL.no hm
    refine (iputNo m Ab cb w hm hbl).mono ?_
    rintro e w' ⟨rfl, hb⟩
    exact PutPost.of _ 0 rfl Bs.nil_ hb
end Go.Proofs.Ytndhiopfkgdhcaa
