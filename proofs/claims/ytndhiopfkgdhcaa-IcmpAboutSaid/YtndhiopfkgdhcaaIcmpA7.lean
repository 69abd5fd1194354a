/- The contract of package icmp's About. -/
import Derived.Test.YtndhiopfkgdhcaaIcmpA6
namespace Go.Proofs.Ytndhiopfkgdhcaa
open Go.ChangeShapes Go.WideShapes Go.ChangeAt Go.RowKit
set_option linter.unusedVariables false
set_option linter.unusedSimpArgs false

/-- what About hands back. -/
def AboutPost (w : World) (q : Int × Pk) (e : Ending) (w' : World) : Prop := ∃ Ao co Ab cb, e = .returned (.tuple #[pkV q.2 Ao co Ab cb, .int .i64 q.1]) ∧ GivesPk w w' q.2 Ao co Ab cb
theorem about_err {w w' : World} {q : Int × Pk} {e : Ending} {n : Int} (hq : q = (n, Pk.empty)) (he : e = .returned (.tuple #[.agg #[.int .i64 0, .int .i64 0, .bool false, .bool false, .int .i64 0, .int .i64 0, .int .i64 0, .int .u32 0, .int .u32 0, .slice none 0 0, .slice none 0 0], .int .i64 n])) (h : Below w.heap.size w w') : AboutPost w q e w' := by
  subst hq
  exact ⟨none, 0, none, 0, he, gives_empty h⟩
theorem about_kind {m : Ic} (h : errK m.type = false) : aboutI m = (1, Pk.empty) := by unfold aboutI; rw [if_pos h]
theorem about_meas {m : Ic} (h : errK m.type = true) (hM : imE m.body ≠ 0) : aboutI m = (imE m.body, Pk.empty) := by
  unfold imE at hM ⊢
  unfold aboutI
  rw [if_neg (by rw [h]; simp)]
  split
  · rfl
  · split
    · rfl
    · split
      · rfl
      · rename_i h1 h2 h3
        rw [if_neg h1, if_neg h2, if_neg h3] at hM
        exact absurd rfl hM
theorem about_ok {m : Ic} (h : errK m.type = true) (hM : imE m.body = 0) {k q : Nat} (hk : (k : Int) = headN m.body) (hq : (q : Int) = wd m.body 2) :
    aboutI m = if fo (tot (m.body.take k)) ≠ 65535 then (5, Pk.empty) else if (m.body.length : Int) - k < 8 ∧ (m.body.length : Int) < q then (2, Pk.empty) else (0, rdP (m.body.take k) ((m.body.take q).drop k)) := by
  obtain ⟨m1, m2, m3, m4, m5⟩ := imE_ok hM
  have ek : (headN m.body).toNat = k := by omega
  have eq : (wd m.body 2).toNat = q := by omega
  have hr := rdP_take m.body k ((m.body.take q).drop k) (by omega) (by omega)
  rw [hr]
  unfold aboutI
  rw [if_neg (by rw [h]; simp), if_neg (by omega), if_neg (by omega), if_neg (by omega), ek, eq, ← hk, ← hq]
  rfl

/-- a boxed message, and an empty packet behind it. -/
abbrev Za (m : Ic) (Ab : Option Addr) (cb : Nat) (w : World) : World := (w.alloc (.cells #[.int .i64 m.type, .int .i64 m.code, .int .u32 m.rest, .slice Ab m.body.length cb] 25)).alloc (.cells #[.int .i64 0, .int .i64 0, .bool false, .bool false, .int .i64 0, .int .i64 0, .int .i64 0, .int .u32 0, .int .u32 0, .slice none 0 0, .slice none 0 0] 43)
theorem za_is (m : Ic) (Ab : Option Addr) (cb : Nat) (w : World) : (w.alloc (.cells #[.int .i64 m.type, .int .i64 m.code, .int .u32 m.rest, .slice Ab m.body.length cb] 25)).alloc (.cells #[.int .i64 0, .int .i64 0, .bool false, .bool false, .int .i64 0, .int .i64 0, .int .i64 0, .int .u32 0, .int .u32 0, .slice none 0 0, .slice none 0 0] 43) = Za m Ab cb w := rfl
structure Al (m : Ic) (Ab : Option Addr) (cb : Nat) (w X : World) : Prop where
  size : w.heap.size + 2 ≤ X.heap.size
  below : Below w.heap.size w X
  is : icIs X w.heap.size m Ab cb
  z : X.cell? ⟨w.heap.size + 1, 0, none⟩ = some (.int .i64 0) ∧ X.cell? ⟨w.heap.size + 1, 1, none⟩ = some (.int .i64 0) ∧ X.cell? ⟨w.heap.size + 1, 2, none⟩ = some (.bool false) ∧ X.cell? ⟨w.heap.size + 1, 3, none⟩ = some (.bool false) ∧ X.cell? ⟨w.heap.size + 1, 4, none⟩ = some (.int .i64 0) ∧ X.cell? ⟨w.heap.size + 1, 5, none⟩ = some (.int .i64 0) ∧ X.cell? ⟨w.heap.size + 1, 6, none⟩ = some (.int .i64 0) ∧ X.cell? ⟨w.heap.size + 1, 7, none⟩ = some (.int .u32 0) ∧ X.cell? ⟨w.heap.size + 1, 8, none⟩ = some (.int .u32 0) ∧ X.cell? ⟨w.heap.size + 1, 9, none⟩ = some (.slice none 0 0) ∧ X.cell? ⟨w.heap.size + 1, 10, none⟩ = some (.slice none 0 0)
  fz : ∀ o, X.frozen? ⟨w.heap.size + 1, o, none⟩ = false
section
variable {m : Ic} {Ab : Option Addr} {cb : Nat} {w X Y : World}
theorem Al.start : Al m Ab cb w (Za m Ab cb w) := by
  refine ⟨by simp, ((Below.refl _ _).alloc (Nat.le_refl _) _).alloc (by simp) _, icIs.call icIs.made ((Below.refl _ _).alloc (Nat.le_refl _) _) (by simp), ?_, fun o => ?_⟩
  · refine ⟨?_, ?_, ?_, ?_, ?_, ?_, ?_, ?_, ?_, ?_, ?_⟩ <;> simp [go_sem]
  · simp [go_sem]
theorem Al.step (h : Al m Ab cb w X) (hb : Below (w.heap.size + 2) X Y) : Al m Ab cb w Y := by
  obtain ⟨z0, z1, z2, z3, z4, z5, z6, z7, z8, z9, z10⟩ := h.z
  have hc := fun (o : Nat) => hb.cell (p := ⟨w.heap.size + 1, o, none⟩) (Nat.lt_succ_self _)
  exact ⟨Nat.le_trans h.size hb.size, h.below.trans (hb.mono (by omega)), h.is.keep hb (by omega), ⟨(hc 0).trans z0, (hc 1).trans z1, (hc 2).trans z2, (hc 3).trans z3, (hc 4).trans z4, (hc 5).trans z5, (hc 6).trans z6, (hc 7).trans z7, (hc 8).trans z8, (hc 9).trans z9, (hc 10).trans z10⟩, fun o => (hb.frozen (p := ⟨w.heap.size + 1, o, none⟩) (Nat.lt_succ_self _)).trans (h.fz o)⟩
theorem Al.call (h : Al m Ab cb w X) (hb : Below X.heap.size X Y) : Al m Ab cb w Y := h.step (hb.mono h.size)
end

set_option maxRecDepth 100000 in
set_option maxHeartbeats 8000000 in
theorem iabout (m : Ic) (Ab : Option Addr) (cb : Nat) (w : World) (hI : IcIn w w.heap.size m Ab cb) (hl : m.body.length ≤ 16777216) :
    Calls Try.prog 21 #[icV m Ab cb] w (AboutPost w (aboutI m)) := by
  have HI := Go.Lib.hid hI
  have blen := hI.blen
  have bcap := hI.bcap
  have a0 : Al m Ab cb w (Za m Ab cb w) := Al.start
  obtain ⟨zk, hzk⟩ : ∃ zk : Bool, errK m.type = zk := ⟨_, rfl⟩
  have HZK := Go.Lib.hid hzk
  clear hI hzk
  go_enter Try.func21, Try.ntmps21
  go_upto_region 1 with fail
  rw [za_is]
  generalize Za m Ab cb w = W at *
  obtain ⟨c0, c1, c2, c3⟩ := a0.is.cells
  obtain ⟨z0, z1, z2, z3, z4, z5, z6, z7, z8, z9, z10⟩ := a0.z
  have zf := a0.fz
  cases zk with
  | false =>
    have HP := Go.Lib.hid (about_kind HZK.out)
    go_wp2_with fail
    refine (ierror m Ab cb W false HZK.out).mono ?_
    rintro e w1 ⟨rfl, hb1⟩
    dsimp only
    have a1 := a0.call hb1
    clear c0 c1 c2 c3 z0 z1 z2 z3 z4 z5 z6 z7 z8 z9 z10 zf hb1
    obtain ⟨c0, c1, c2, c3⟩ := a1.is.cells
    obtain ⟨z0, z1, z2, z3, z4, z5, z6, z7, z8, z9, z10⟩ := a1.z
    have zf := a1.fz
    go_wp2
    refine bodyPost_ret (v := .tuple #[.agg #[.int .i64 0, .int .i64 0, .bool false, .bool false, .int .i64 0, .int .i64 0, .int .i64 0, .int .u32 0, .int .u32 0, .slice none 0 0, .slice none 0 0], .int .i64 1]) ?_ rfl (about_err HP.out rfl ?_)
    · simp [results, Try.results21, go_sem, z0, z1, z2, z3, z4, z5, z6, z7, z8, z9, z10]
    · exact below_far11 a1.below (Nat.le_succ _) _ _ _ _ _ _ _ _ _ _ _
  | true =>
    go_wp2_with fail
    refine (ierror m Ab cb W true HZK.out).mono ?_
    rintro e w1 ⟨rfl, hb1⟩
    dsimp only
    have a1 := a0.call hb1
    clear c0 c1 c2 c3 z0 z1 z2 z3 z4 z5 z6 z7 z8 z9 z10 zf hb1 a0
    obtain ⟨c0, c1, c2, c3⟩ := a1.is.cells
    obtain ⟨z0, z1, z2, z3, z4, z5, z6, z7, z8, z9, z10⟩ := a1.z
    have zf := a1.fz
    by_cases hM : imE m.body = 0
    · obtain ⟨m1, m2, m3, m4, m5⟩ := imE_ok hM
      obtain ⟨k, hk⟩ : ∃ k : Nat, (k : Int) = headN m.body := ⟨(headN m.body).toNat, by omega⟩
      obtain ⟨q, hq⟩ : ∃ q : Nat, (q : Int) = wd m.body 2 := ⟨(wd m.body 2).toNat, by omega⟩
      have HP := Go.Lib.hid (about_ok HZK.out hM hk hq)
      have HM := Go.Lib.hid hM
      have HH : Hid ((if imE m.body = 0 then headN m.body else 0) = (k : Int)) := Go.Lib.hid (by rw [if_pos hM, hk])
      have HQ : Hid ((if imE m.body = 0 then wd m.body 2 else 0) = (q : Int)) := Go.Lib.hid (by rw [if_pos hM, hq])
      have hh : headN m.body = g8 m.body 0 % 16 * 4 := rfl
      have gl := g8_lo m.body 0
      have gh := g8_hi m.body 0
      have wh := wd_hi m.body 2
      have k20 : 20 ≤ k := by omega
      have k60 : k ≤ 60 := by omega
      have k4 : k % 4 = 0 := by omega
      have HG0 : Hid (g8 (m.body.take k) 0 = 64 + (k : Int) / 4) := Go.Lib.hid (by
        show _ = _
        rw [g8_at _ 0 (by rw [List.length_take]; omega), List.getElem_take, ← g8_at m.body 0 (by omega)]
        omega)
      have kn : k ≤ m.body.length := by omega
      have kq : k ≤ q := by omega
      have q65 : q ≤ 65535 := by omega
      have HTL : Hid ((m.body.take k).length = k) := Go.Lib.hid (by rw [List.length_take]; omega)
      obtain ⟨ad, rfl, hlt, _⟩ := g8_cells HI.out.bs (by omega)
      clear hM m1 m2 m3 m4 m5 hk hq hh gl gh wh
      go_wp2_with fail
      refine (imeasure (some ad) _ cb m.body w.heap.size w1 rfl (HI.out.bs.below a1.below) hl blen).mono ?_
      rw [HH.out, HQ.out, HM.out]
      rintro e w2 ⟨rfl, mm, rfl⟩
      dsimp only
      have a2 := a1.call (below_dn (Below.refl _ _) mm)
      clear c0 c1 c2 c3 z0 z1 z2 z3 z4 z5 z6 z7 z8 z9 z10 zf a1
      generalize w1.drewN mm = w2 at *
      obtain ⟨c0, c1, c2, c3⟩ := a2.is.cells
      obtain ⟨z0, z1, z2, z3, z4, z5, z6, z7, z8, z9, z10⟩ := a2.z
      have zf := a2.fz
      have j0 : (0 : Int) ≤ (k : Int) := by omega
      have j1 : (k : Int) ≤ (cb : Int) := by omega
      obtain ⟨s, hs⟩ : ∃ s : Int, fo (tot (m.body.take k)) = s := ⟨_, rfl⟩
      have HS := Go.Lib.hid hs
      go_wp2_with fail
      refine (csum_n (some ad) k cb (m.body.take k) w.heap.size w2 HTL.out ((HI.out.bs.below a2.below).take k) (by omega) (by omega) bcap).mono ?_
      rw [hs]
      rw [hs] at HP
      rintro e w3 ⟨rfl, mm, rfl⟩
      dsimp only
      have a3 := a2.call (below_dn (Below.refl _ _) mm)
      clear c0 c1 c2 c3 z0 z1 z2 z3 z4 z5 z6 z7 z8 z9 z10 zf a2 hs
      generalize w2.drewN mm = w3 at *
      obtain ⟨c0, c1, c2, c3⟩ := a3.is.cells
      obtain ⟨z0, z1, z2, z3, z4, z5, z6, z7, z8, z9, z10⟩ := a3.z
      have zf := a3.fz
      by_cases h5 : s = 65535
      · have t5 : (s != 65535) = false := by simpa using h5
        have e8 := IntWalk.i64_in ((k : Int) + 8) (by omega)
        by_cases h6 : (m.body.length : Int) < (q : Int) ∧ (m.body.length : Int) < (k : Int) + 8
        · have HP2 : Hid (aboutI m = (2, Pk.empty)) := Go.Lib.hid (by rw [HP.out, if_neg (by simpa using h5), if_pos (by omega)])
          obtain ⟨h6, h7⟩ := h6
          clear h5
          go_wp2
          refine bodyPost_ret (v := .tuple #[.agg #[.int .i64 0, .int .i64 0, .bool false, .bool false, .int .i64 0, .int .i64 0, .int .i64 0, .int .u32 0, .int .u32 0, .slice none 0 0, .slice none 0 0], .int .i64 2]) ?_ rfl (about_err HP2.out rfl ?_)
          · simp [results, Try.results21, go_sem, z0, z1, z2, z3, z4, z5, z6, z7, z8, z9, z10]
          · exact below_far11 a3.below (Nat.le_succ _) _ _ _ _ _ _ _ _ _ _ _
        · have HP0 : Hid (aboutI m = (0, rdP (m.body.take k) ((m.body.take q).drop k))) := Go.Lib.hid (by rw [HP.out, if_neg (by simpa using h5), if_neg (by omega)])
          have hQ : ∃ Q : Nat, (¬ (m.body.length : Int) < (q : Int) ∧ Q = q ∨ (m.body.length : Int) < (q : Int) ∧ ¬ (m.body.length : Int) < (k : Int) + 8 ∧ Q = m.body.length) := by
            by_cases h : q ≤ m.body.length
            · exact ⟨q, .inl ⟨by omega, rfl⟩⟩
            · exact ⟨_, .inr ⟨by omega, by omega, rfl⟩⟩
          obtain ⟨Q, hQ⟩ := hQ
          have HQT : Hid (m.body.take q = m.body.take Q) := Go.Lib.hid (by
            rcases hQ with ⟨_, rfl⟩ | ⟨h, _, rfl⟩
            · rfl
            · rw [List.take_of_length_le (by omega), List.take_of_length_le (by omega)])
          have Qn : Q ≤ m.body.length := by omega
          have kQ : k ≤ Q := by omega
          have HDL : Hid (((m.body.take Q).drop k).length = Q - k) := Go.Lib.hid (by rw [List.length_drop, List.length_take]; omega)
          have HBb : Hid (Bs w w.heap.size (if cb = k then (some ad : Option Addr) else some (ad.add k)) ((m.body.take Q).drop k)) := Go.Lib.hid (by rw [add_pos ad k (by omega)]; exact (HI.out.bs.take Q).cut k cb (by rw [List.length_take]; omega) (by omega))
          have HNb : Hid ((if cb = k then (some ad : Option Addr) else some (ad.add k)) = none → cb - k = 0) := Go.Lib.hid (fun h => by split at h <;> cases h)
          obtain ⟨AA, hAA⟩ : ∃ AA, (if cb = k then (some ad : Option Addr) else some (ad.add k)) = AA := ⟨_, rfl⟩
          rw [hAA] at HBb HNb
          have j2 : (k : Int) ≤ (Q : Int) := by omega
          have j3 : (Q : Int) ≤ (cb : Int) := by omega
          have HPF : Hid (aboutI m = (0, rdP (m.body.take k) ((m.body.take Q).drop k))) := Go.Lib.hid (by rw [HP0.out, HQT.out])
          obtain ⟨TB, hTB⟩ : ∃ TB, (m.body.take Q).drop k = TB := ⟨_, rfl⟩
          rw [hTB] at HDL HBb HPF
          clear h5 h6 HP HP0 HQT hTB
          rcases hQ with ⟨hQ, rfl⟩ | ⟨hQ, hQ2, rfl⟩
          all_goals
            try (have hAA' : AA = some (ad.add k) := (by rw [← hAA, if_neg (by omega)]); subst hAA')
            go_upto_region 10 with fail
            go_wp2_with fail
            refine (ireadHead (some ad) k cb (m.body.take k) w3 HTL.out (((HI.out.bs.below a3.below).take k).more a3.below.size) k20 k60 k4 HG0.out (by omega) bcap).mono ?_
            rintro e w4 ⟨Ao, co, Ab2, cb2, rfl, hg⟩
            obtain ⟨p, hp⟩ : ∃ p, rdP (m.body.take k) [] = p := ⟨_, rfl⟩
            rw [hp] at hg
            rw [hp]
            have HPP := Go.Lib.hid hp
            dsimp only
            have a4 := a3.call hg.below
            have s34 := hg.below.size
            have s3 := a3.size
            clear c0 c1 c2 c3 z0 z1 z2 z3 z4 z5 z6 z7 z8 z9 z10 zf a3 hp
            go_upto_region 11 with fail
            have C5 := c11_made w4 (.int .i64 p.tos) (.int .i64 p.id) (.bool p.df) (.bool p.mf) (.int .i64 p.off) (.int .i64 p.ttl) (.int .i64 p.proto) (.int .u32 p.src) (.int .u32 p.dst) (.slice Ao p.opts.length co) (.slice Ab2 p.body.length cb2)
            have y5 : Below w4.heap.size w4 (w4.alloc (.cells #[.int .i64 p.tos, .int .i64 p.id, .bool p.df, .bool p.mf, .int .i64 p.off, .int .i64 p.ttl, .int .i64 p.proto, .int .u32 p.src, .int .u32 p.dst, .slice Ao p.opts.length co, .slice Ab2 p.body.length cb2] 43)) := (Below.refl _ _).alloc (Nat.le_refl _) _
            have f5 : ∀ o, (w4.alloc (.cells #[.int .i64 p.tos, .int .i64 p.id, .bool p.df, .bool p.mf, .int .i64 p.off, .int .i64 p.ttl, .int .i64 p.proto, .int .u32 p.src, .int .u32 p.dst, .slice Ao p.opts.length co, .slice Ab2 p.body.length cb2] 43)).frozen? ⟨w4.heap.size, o, none⟩ = false := fun o => by simp [go_sem]
            have s5 : w4.heap.size < (w4.alloc (.cells #[.int .i64 p.tos, .int .i64 p.id, .bool p.df, .bool p.mf, .int .i64 p.off, .int .i64 p.ttl, .int .i64 p.proto, .int .u32 p.src, .int .u32 p.dst, .slice Ao p.opts.length co, .slice Ab2 p.body.length cb2] 43)).heap.size := by simp
            generalize w4.alloc (.cells #[.int .i64 p.tos, .int .i64 p.id, .bool p.df, .bool p.mf, .int .i64 p.off, .int .i64 p.ttl, .int .i64 p.proto, .int .u32 p.src, .int .u32 p.dst, .slice Ao p.opts.length co, .slice Ab2 p.body.length cb2] 43) = w5 at *
            have a5 := a4.call y5
            obtain ⟨c0, c1, c2, c3⟩ := a5.is.cells
            obtain ⟨z0, z1, z2, z3, z4, z5, z6, z7, z8, z9, z10⟩ := a5.z
            have zf := a5.fz
            have q10 := C5.c10
            have g10 := f5 10
            go_wp2_with fail
            refine (cclone _ _ _ TB w.heap.size w5 HDL.out (HBb.out.below a5.below) a5.below.size (by omega) HNb.out (by omega)).mono ?_
            rintro e w6 ⟨A3, c3', rfl, hg6⟩
            dsimp only
            have C6 := C5.keep hg6.below s5
            have q10' := C6.c10
            have g10' := (hg6.below.frozen (p := ⟨w4.heap.size, 10, none⟩) s5).trans (f5 10)
            have f3 : ∀ ad, A3 = some ad → w4.heap.size < ad.block := fun ad e => Nat.lt_of_lt_of_le s5 (hg6.fresh ad e)
            clear c0 c1 c2 c3 z0 z1 z2 z3 z4 z5 z6 z7 z8 z9 z10 zf q10 g10 C5 f5 hAA
            go_upto_region 12 with fail
            rw [← HDL.out]
            have C7 := C6.set10 (.slice A3 TB.length c3')
            have y7 := (y5.trans (hg6.below.mono y5.size)).setCell (p := ⟨w4.heap.size, 10, none⟩) (Nat.le_refl _) (.slice A3 TB.length c3')
            have hb7 := (hg6.bs.far ⟨w4.heap.size, 10, none⟩ (.slice A3 TB.length c3') (fun ad e => Nat.ne_of_lt (f3 ad e))).more (show _ ≤ (w6.setCell ⟨w4.heap.size, 10, none⟩ (.slice A3 TB.length c3')).heap.size by simp)
            have i6 := hg6.len
            have i7 := hg6.cap
            have i8 := hg6.nil
            clear C6 q10' g10' hg6 y5 s5 a5
            generalize w6.setCell ⟨w4.heap.size, 10, none⟩ (.slice A3 TB.length c3') = w7 at *
            have a7 := a4.call y7
            clear a4
            obtain ⟨z0, z1, z2, z3, z4, z5, z6, z7, z8, z9, z10⟩ := a7.z
            have zf := a7.fz
            obtain ⟨d0, d1, d2, d3, d4, d5, d6, d7, d8, d9, d10⟩ := C7
            have HV : Hid ((.agg #[.int .i64 p.tos, .int .i64 p.id, .bool p.df, .bool p.mf, .int .i64 p.off, .int .i64 p.ttl, .int .i64 p.proto, .int .u32 p.src, .int .u32 p.dst, .slice Ao p.opts.length co, .slice A3 TB.length c3'] : Value) = pkV (rdP (m.body.take k) TB) Ao co A3 c3') := Go.Lib.hid (by have := HPP.out; subst this; rfl)
            have HG : Hid (GivesPk w (((((((((((w7.setCell ⟨w.heap.size + 1, 0, none⟩ (.int .i64 p.tos)).setCell ⟨w.heap.size + 1, 1, none⟩ (.int .i64 p.id)).setCell ⟨w.heap.size + 1, 2, none⟩ (.bool p.df)).setCell ⟨w.heap.size + 1, 3, none⟩ (.bool p.mf)).setCell ⟨w.heap.size + 1, 4, none⟩ (.int .i64 p.off)).setCell ⟨w.heap.size + 1, 5, none⟩ (.int .i64 p.ttl)).setCell ⟨w.heap.size + 1, 6, none⟩ (.int .i64 p.proto)).setCell ⟨w.heap.size + 1, 7, none⟩ (.int .u32 p.src)).setCell ⟨w.heap.size + 1, 8, none⟩ (.int .u32 p.dst)).setCell ⟨w.heap.size + 1, 9, none⟩ (.slice Ao p.opts.length co)).setCell ⟨w.heap.size + 1, 10, none⟩ (.slice A3 TB.length c3')) (rdP (m.body.take k) TB) Ao co A3 c3') := Go.Lib.hid (by
              have := HPP.out
              subst this
              exact ⟨hg.olen, hg.ocap, hg.onil, (bs_set11 ((hg.obs.below y7).more y7.size) (fun ad e => by have := hg.ofresh ad e; omega) _ _ _ _ _ _ _ _ _ _ _).more (by rw [size_set11]; exact Nat.le_refl _), fun ad e => by have := hg.ofresh ad e; omega, i6, i7, i8, (bs_set11 hb7 (fun ad e => by have := f3 ad e; omega) _ _ _ _ _ _ _ _ _ _ _).more (by rw [size_set11]; exact Nat.le_refl _), fun ad e => by have := f3 ad e; omega, below_far11 a7.below (Nat.le_succ _) _ _ _ _ _ _ _ _ _ _ _⟩)
            clear hg y7 a7 hb7 HPP f3 HI HZK HM HH HTL HG0 HDL HBb HNb
            go_wp2
            all_goals
              refine bodyPost_ret (v := .tuple #[pkV (rdP (m.body.take k) TB) Ao co A3 c3', .int .i64 0]) ?_ rfl ⟨Ao, co, A3, c3', by rw [HPF.out], by rw [HPF.out]; exact HG.out⟩
              rw [← HV.out]
              simp [results, Try.results21, go_sem, z0, z1, z2, z3, z4, z5, z6, z7, z8, z9, z10]
      · have HP5 : Hid (aboutI m = (5, Pk.empty)) := Go.Lib.hid (by rw [HP.out, if_pos (by simpa using h5)])
        have t5 : (s != 65535) = true := by simpa using h5
        clear h5 HP
        go_wp2
        refine bodyPost_ret (v := .tuple #[.agg #[.int .i64 0, .int .i64 0, .bool false, .bool false, .int .i64 0, .int .i64 0, .int .i64 0, .int .u32 0, .int .u32 0, .slice none 0 0, .slice none 0 0], .int .i64 5]) ?_ rfl (about_err HP5.out rfl ?_)
        · simp [results, Try.results21, go_sem, z0, z1, z2, z3, z4, z5, z6, z7, z8, z9, z10]
        · exact below_far11 a3.below (Nat.le_succ _) _ _ _ _ _ _ _ _ _ _ _
    · have HP := Go.Lib.hid (about_meas HZK.out hM)
      have HH : Hid ((if imE m.body = 0 then headN m.body else 0) = 0) := Go.Lib.hid (if_neg hM)
      have HQ : Hid ((if imE m.body = 0 then wd m.body 2 else 0) = 0) := Go.Lib.hid (if_neg hM)
      go_wp2_with fail
      refine (imeasure Ab _ cb m.body w.heap.size w1 rfl (HI.out.bs.below a1.below) hl blen).mono ?_
      rw [HH.out, HQ.out]
      clear HH HQ
      obtain ⟨E, hE⟩ : ∃ E, imE m.body = E := ⟨_, rfl⟩
      rw [hE] at HP hM ⊢
      have t5 : (E != 0) = true := by simpa using hM
      rintro e w2 ⟨rfl, mm, rfl⟩
      dsimp only
      have a2 := a1.call (below_dn (Below.refl _ _) mm)
      clear c0 c1 c2 c3 z0 z1 z2 z3 z4 z5 z6 z7 z8 z9 z10 zf a1 hM hE
      generalize w1.drewN mm = w2 at *
      obtain ⟨c0, c1, c2, c3⟩ := a2.is.cells
      obtain ⟨z0, z1, z2, z3, z4, z5, z6, z7, z8, z9, z10⟩ := a2.z
      have zf := a2.fz
      go_wp2
      refine bodyPost_ret (v := .tuple #[.agg #[.int .i64 0, .int .i64 0, .bool false, .bool false, .int .i64 0, .int .i64 0, .int .i64 0, .int .u32 0, .int .u32 0, .slice none 0 0, .slice none 0 0], .int .i64 E]) ?_ rfl (about_err HP.out rfl ?_)
      · simp [results, Try.results21, go_sem, z0, z1, z2, z3, z4, z5, z6, z7, z8, z9, z10]
      · exact below_far11 a2.below (Nat.le_succ _) _ _ _ _ _ _ _ _ _ _ _
end Go.Proofs.Ytndhiopfkgdhcaa
