/- The contract of package tcp's Put. -/
import Derived.Test.YtghgemmbbedopaaTcpA6
import Derived.Deep.RegionHeld3
namespace Go.Proofs.Ytghgemmbbedopaa
open Go.ChangeShapes Go.WideShapes Go.ChangeAt Go.RowKit
set_option linter.unusedVariables false
set_option linter.unusedSimpArgs false

theorem mayT_osm (t : Tc) (h : rightB t.opts = true) : Osm t.opts := by
  have h40 := right_olen _ h
  have h1 : ∀ o ∈ t.opts, o.data.length ≤ olen t.opts := by
    intro o ho
    obtain ⟨i, hi, rfl⟩ := List.getElem_of_mem ho
    have := olen_take_succ t.opts i hi
    have := olen_take_le t.opts (i + 1)
    omega
  have h2 : 2 * t.opts.length ≤ olen t.opts := by
    generalize t.opts = os
    induction os with
    | nil => simp
    | cons o r ih => simp only [olen, List.length_cons]; omega
  exact ⟨by omega, fun o ho => by have := h1 o ho; omega⟩

set_option maxRecDepth 100000 in
set_option maxHeartbeats 1000000 in
theorem tputNo (src dst : Int) (t : Tc) (Ao : Option Addr) (co : Nat) (Ab : Option Addr) (cb : Nat) (w : World) (hM : mayT t = false) (hI : TcIn w w.heap.size t Ao co Ab cb) (ho : Osm t.opts) (hbl : t.body.length ≤ 16777216) :
    Calls Try.prog 10 #[.int .u32 src, .int .u32 dst, tcV t Ao co Ab cb] w fun e w' => e = .returned (.tuple #[.slice none 0 0, .int .i64 1]) ∧ Below w.heap.size w w' := by
  have HM := Go.Lib.hid hM
  have HO := Go.Lib.hid ho
  have HI := Go.Lib.hid hI
  have b0 : Below w.heap.size w (w.alloc (.cells #[.int .i64 t.sport, .int .i64 t.dport, .int .u32 t.seq, .int .u32 t.ack, .int .i64 t.flags, .int .i64 t.win, .int .i64 t.urg, .slice Ao t.opts.length co, .slice Ab t.body.length cb] 26)) := (Below.refl _ _).alloc (Nat.le_refl _) _
  clear hM ho hI
  go_enter Try.func10, Try.ntmps10
  go_wp2_with fail
  refine (tmay t Ao co Ab cb _ false HM.out w.heap.size (HI.out.os.below b0) b0.size HO.out hbl).mono ?_
  rintro e w1 ⟨rfl, hb1⟩
  dsimp only
  go_wp2
  go_ret2
  exact ⟨rfl, b0.trans (hb1.mono b0.size)⟩

set_option maxRecDepth 100000 in
set_option maxHeartbeats 4000000 in
theorem tputYes (src dst : Int) (t : Tc) (Ao : Option Addr) (co : Nat) (Ab : Option Addr) (cb : Nat) (w : World) (hM : MayT t) (hs : 0 ≤ src ∧ src ≤ 4294967295) (hd : 0 ≤ dst ∧ dst ≤ 4294967295) (hI : TcIn w w.heap.size t Ao co Ab cb) (N : Nat) (hN : N = thl t.opts + t.body.length) :
    Calls Try.prog 10 #[.int .u32 src, .int .u32 dst, tcV t Ao co Ab cb] w fun e w' => ∃ g c, e = .returned (.tuple #[.slice (some ⟨g, 0, none⟩) N c, .int .i64 0]) ∧ Own w' w.heap.size g N c (putT src dst t) ∧ Below w.heap.size w w' := by
  obtain ⟨i0, hi, hz0, hz1, hz2⟩ := info_parts info_byte
  have HM := Go.Lib.hid ((mayT_iff t).2 hM)
  have HO := Go.Lib.hid (mayT_osm t hM.opts)
  have hfit := hM.fit
  have h20 : 20 ≤ thl t.opts := by unfold thl; omega
  obtain ⟨n, hn⟩ : ∃ n : Nat, thl t.opts = n := ⟨_, rfl⟩
  rw [hn] at hfit h20 hN
  have HT := Go.Lib.hid hn
  have HI := Go.Lib.hid hI
  have HS := Go.Lib.hid hM
  have m0 := tcIs.made (w := w) (t := t) (A_opts := Ao) (c_opts := co) (A_body := Ab) (c_body := cb)
  have b0 : Below w.heap.size w (w.alloc (.cells #[.int .i64 t.sport, .int .i64 t.dport, .int .u32 t.seq, .int .u32 t.ack, .int .i64 t.flags, .int .i64 t.win, .int .i64 t.urg, .slice Ao t.opts.length co, .slice Ab t.body.length cb] 26)) := (Below.refl _ _).alloc (Nat.le_refl _) _
  have sz : w.heap.size + 1 ≤ (w.alloc (.cells #[.int .i64 t.sport, .int .i64 t.dport, .int .u32 t.seq, .int .u32 t.ack, .int .i64 t.flags, .int .i64 t.win, .int .i64 t.urg, .slice Ao t.opts.length co, .slice Ab t.body.length cb] 26)).heap.size := by simp
  have HNN := Go.Lib.hid hN
  have hN2 : N ≤ 65535 := by omega
  have hN3 : n ≤ N := by omega
  clear hM hI hn hN
  go_enter Try.func10, Try.ntmps10
  go_upto_region 1 with fail
  generalize w.alloc (.cells #[.int .i64 t.sport, .int .i64 t.dport, .int .u32 t.seq, .int .u32 t.ack, .int .i64 t.flags, .int .i64 t.win, .int .i64 t.urg, .slice Ao t.opts.length co, .slice Ab t.body.length cb] 26) = W at *
  have M0 := Go.Lib.hid m0
  have K : ∀ Y, Below (w.heap.size + 1) W Y → Y.cell? ⟨w.heap.size, 0, none⟩ = some (.int .i64 t.sport) ∧ Y.cell? ⟨w.heap.size, 1, none⟩ = some (.int .i64 t.dport) ∧ Y.cell? ⟨w.heap.size, 2, none⟩ = some (.int .u32 t.seq) ∧ Y.cell? ⟨w.heap.size, 3, none⟩ = some (.int .u32 t.ack) ∧ Y.cell? ⟨w.heap.size, 4, none⟩ = some (.int .i64 t.flags) ∧ Y.cell? ⟨w.heap.size, 5, none⟩ = some (.int .i64 t.win) ∧ Y.cell? ⟨w.heap.size, 6, none⟩ = some (.int .i64 t.urg) ∧ Y.cell? ⟨w.heap.size, 7, none⟩ = some (.slice Ao t.opts.length co) ∧ Y.cell? ⟨w.heap.size, 8, none⟩ = some (.slice Ab t.body.length cb) ∧ Below (w.heap.size + 1) W Y := fun Y y => by
    obtain ⟨c0, c1, c2, c3, c4, c5, c6, c7, c8⟩ := (M0.out.keep y (Nat.lt_succ_self _)).cells
    exact ⟨c0, c1, c2, c3, c4, c5, c6, c7, c8, y⟩
  obtain ⟨c0, c1, c2, c3, c4, c5, c6, c7, c8⟩ := m0.cells
  clear m0
  go_wp2_with fail
  refine (tmay t Ao co Ab cb W true HM.out w.heap.size (HI.out.os.below b0) b0.size HO.out (by omega)).mono ?_
  rintro e w1 ⟨rfl, hb1⟩
  dsimp only
  have x1 : Below (w.heap.size + 1) W w1 := hb1.mono sz
  clear hb1 c0 c1 c2 c3 c4 c5 c6 c7 c8
  go_upto_region 3 with fail
  go_region_held3 (fun Y => Y.cell? ⟨w.heap.size, 0, none⟩ = some (.int .i64 t.sport) ∧ Y.cell? ⟨w.heap.size, 1, none⟩ = some (.int .i64 t.dport) ∧ Y.cell? ⟨w.heap.size, 2, none⟩ = some (.int .u32 t.seq) ∧ Y.cell? ⟨w.heap.size, 3, none⟩ = some (.int .u32 t.ack) ∧ Y.cell? ⟨w.heap.size, 4, none⟩ = some (.int .i64 t.flags) ∧ Y.cell? ⟨w.heap.size, 5, none⟩ = some (.int .i64 t.win) ∧ Y.cell? ⟨w.heap.size, 6, none⟩ = some (.int .i64 t.urg) ∧ Y.cell? ⟨w.heap.size, 7, none⟩ = some (.slice Ao t.opts.length co) ∧ Y.cell? ⟨w.heap.size, 8, none⟩ = some (.slice Ab t.body.length cb) ∧ Below (w.heap.size + 1) W Y)
    (first
      | exact K _ (below_drew x1)
      | exact K _ (hx2.trans ((Below.refl _ _).grown hg (Nat.le_trans sz hx2.size) hblk))
      | exact K _ (hx.trans (hcall.mono (Nat.le_trans sz hx.size))))
    (first
      | (go_at_call 23; obtain ⟨_, _, _, _, _, _, _, _, _, hx⟩ := ‹_ ∧ _›; refine (tputHead t Ao co Ab cb _ HS.out HI.out.q0 HI.out.q1 HI.out.a0 HI.out.a1 (((HI.out.os.below b0).below (hx.mono (Nat.le_succ _))).more (Nat.le_trans b0.size hx.size))).mono ?_; rw [HT.out]; rintro e w2 ⟨g, c, rfl, hown, hcall⟩)
      | (obtain ⟨_, _, _, _, _, _, _, _, _, hx2⟩ := ‹_ ∧ _›; have hblk : ∀ k, (Value.slice (some ⟨g, 0, none⟩) n c).ownBlock = some k → w.heap.size + 1 ≤ k := (fun k hk => by have := hown.lt.1; have := hx.size; simp [Value.ownBlock] at hk; omega); refine step_append_rd rfl _ _ 24 rfl (w.heap.size + 1) 5 i0 (.int .u8 0) 1 Try.underlying24 hi hz0 hz1 hz2 rfl _ _ _ rfl (World.ownsRow.mono hown (Nat.le_trans sz hx.size)) w.heap.size Ab _ cb (t.body.map bv) rfl (by simp) HI.out.bnil ((HI.out.bs.below b0).below (hx2.mono (Nat.le_succ _))).rd (bv_one _) (by unfold maxLen; omega) (by omega) (Nat.le_trans sz hx2.size) ?_; intro v3 w3 hown3 hg hat))
  all_goals
    obtain ⟨_, _, _, _, _, _, _, _, _, hx3⟩ := ‹_ ∧ _›
    have hNE := HNN.out
    rw [← hNE] at hown3
    obtain ⟨g', c', rfl, _, _, _, _⟩ := own_form hown3 (by omega)
    have HO3 : Own w3 (w.heap.size + 1) g' N c' (segB t 0) := by
      have e : segB t 0 = headT t ++ t.body := by unfold segB headT; rw [List.append_assoc]
      unfold Own
      rw [e, List.map_append]
      exact hown3
    clear hown3 hown hcall hx hx2 hg hat hblk hNE
    have H3 := Go.Lib.hid HO3
    have hcap := HO3.cap
    unfold maxLen at hcap
    obtain ⟨hcap1, hcap2⟩ := hcap
    clear HO3
    obtain ⟨s, hsum⟩ : ∃ s : Int, sumT 6 src dst (segB t 0) = s := ⟨_, rfl⟩
    have y0 := sumT_lo 6 src dst (segB t 0)
    have y1 := sumT_hi 6 src dst (segB t 0)
    rw [hsum] at y0 y1
    have HSM := Go.Lib.hid hsum
    clear hsum
    go_wp2_with fail
    refine (tsum src dst (some ⟨g', 0, none⟩) N c' (segB t 0) w3.heap.size _ s HSM.out hs hd H3.out.len H3.out.bs (by omega) hcap1 (by omega)).mono ?_
    rintro e w4 ⟨rfl, m4, rfl⟩
    dsimp only
    have H4 : Hid (Own (w3.drewN m4) (w.heap.size + 1) g' N c' (segB t 0)) := Go.Lib.hid H3.out
    have hx4 : Below (w.heap.size + 1) W (w3.drewN m4) := below_dn hx3 m4
    clear H3 hx3
    generalize w3.drewN m4 = w4 at *
    have z1 := u16_not s y0 y1
    have z2 : IntKind.u16.signed = false := rfl
    have z3 : IntKind.u16.max = 65535 := rfl
    go_wp2_with fail
    refine (tputWord w4 (w.heap.size + 1) g' N c' _ H4.out 16 _ rfl (by omega) (by omega) (65535 - s) (by omega) (by omega)).mono ?_
    rintro e w5 ⟨rfl, o5, b5⟩
    dsimp only
    rw [seg_set t (65535 - s)] at o5
    have hF : segB t (65535 - s) = putT src dst t := by unfold putT chkT; rw [HSM.out]
    rw [hF] at o5
    have H5 := Go.Lib.hid (World.ownsRow.mono o5 (Nat.le_succ _))
    have hx5 := b0.trans ((hx4.trans b5).mono (Nat.le_succ _))
    clear o5 hx4 b5 H4 z1 z2 z3
    go_wp2
    go_ret2
    exact ⟨g', c', rfl, H5.out, hx5⟩
/-- what the document's Put has, package tcp's has. -/
theorem tputU (src dst : Int) (t : Tc) (Ao : Option Addr) (co : Nat) (Ab : Option Addr) (cb : Nat) (L : List UInt8) (n : Nat) (r : Int) (hL : PutTL src dst t L n r) (w : World) (hs : 0 ≤ src ∧ src ≤ 4294967295) (hd : 0 ≤ dst ∧ dst ≤ 4294967295)
    (hI : TcIn w w.heap.size t Ao co Ab cb) (ho : Osm t.opts) (hbl : t.body.length ≤ 16777216) :
    Calls Try.prog 10 #[.int .u32 src, .int .u32 dst, tcV t Ao co Ab cb] w (PutPost L n r w) := by
  by_cases hm : mayT t = true
  · have M := (mayT_iff t).1 hm
    obtain ⟨rfl, hn, rfl⟩ := hL.yes M
    refine (tputYes src dst t Ao co Ab cb w M hs hd hI n hn).mono ?_
    rintro e w' ⟨g, c, rfl, ho, hb⟩
    exact PutPost.of _ c rfl ho.bs hb
  · have hm' : mayT t = false := by simpa using hm
    obtain ⟨rfl, rfl, rfl⟩ := hL.no (fun M => hm ((mayT_iff t).2 M))
    refine (tputNo src dst t Ao co Ab cb w hm' hI ho hbl).mono ?_
    rintro e w' ⟨rfl, hb⟩
    exact PutPost.of _ 0 rfl Bs.nil_ hb
end Go.Proofs.Ytghgemmbbedopaa
