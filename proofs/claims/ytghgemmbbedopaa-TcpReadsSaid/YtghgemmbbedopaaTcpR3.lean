/- The contract of the document's own bytes of a segment. -/
import Derived.Test.YtghgemmbbedopaaTcpR2
namespace Go.Proofs.Ytghgemmbbedopaa
open Go.ChangeShapes Go.WideShapes Go.ChangeAt Go.RowKit
set_option linter.unusedVariables false

theorem two_small (n : Int) : (two n).length ≤ 1073741824 := by simp [two]
theorem seg_join (t : Tc) (ck : Int) (m : Nat) (h : thl t.opts = 20 + m) : (two t.sport ++ two t.dport ++ four t.seq ++ four t.ack ++ [b8 ((20 + (m : Int)) / 4 * 16), b8 t.flags] ++ two t.win ++ two ck ++ two t.urg) ++ padB t.opts ++ t.body = segB t ck := by
  unfold segB seg20 two four
  rw [h]
  simp
/-- what a segment must be for its bytes. -/
structure RngT (t : Tc) : Prop where
  s0 : 0 ≤ t.sport
  s1 : t.sport ≤ 65535
  d0 : 0 ≤ t.dport
  d1 : t.dport ≤ 65535
  q0 : 0 ≤ t.seq
  q1 : t.seq ≤ 4294967295
  a0 : 0 ≤ t.ack
  a1 : t.ack ≤ 4294967295
  w0 : 0 ≤ t.win
  w1 : t.win ≤ 65535
  u0 : 0 ≤ t.urg
  u1 : t.urg ≤ 65535
  f0 : 0 ≤ t.flags
  f1 : t.flags ≤ 255
  opts : rightB t.opts = true
  body : t.body.length ≤ 65535

set_option maxRecDepth 100000 in
set_option maxHeartbeats 8000000 in
theorem rlaid (t : Tc) (Ao : Option Addr) (co : Nat) (Ab : Option Addr) (cb : Nat) (ck : Int) (w : World) (hM : RngT t) (k0 : 0 ≤ ck) (k1 : ck ≤ 65535)
    (hAo : Os w w.heap.size Ao t.opts) (hAb : Bs w w.heap.size Ab t.body) (hnil : Ab = none → cb = 0) :
    Calls Try.prog 27 #[tcV t Ao co Ab cb, .int .i64 ck] w fun e w' => ∃ g c, e = .returned (.slice (some ⟨g, 0, none⟩) (thl t.opts + t.body.length) c) ∧ Own w' w.heap.size g (thl t.opts + t.body.length) c (segB t ck) ∧ Below w.heap.size w w' := by
  have HO := Go.Lib.hid hAo
  have HB := Go.Lib.hid hAb
  have HN := Go.Lib.hid hnil
  have HM := Go.Lib.hid hM
  have hbl := hM.body
  have h40 := right_olen _ hM.opts
  have hol : t.opts.length ≤ 20 := by
    have : ∀ os : List Op, 2 * os.length ≤ olen os := fun os => by
      induction os with
      | nil => simp [olen]
      | cons o r ih => simp only [olen, List.length_cons]; omega
    have := this t.opts
    omega
  clear hAo hAb hnil hM
  go_enter Try.func27, Try.ntmps27
  go_wp2
  have m0 := tcIs.made (w := w) (t := t) (A_opts := Ao) (c_opts := co) (A_body := Ab) (c_body := cb)
  have b0 : Below w.heap.size w (w.alloc (.cells #[.int .i64 t.sport, .int .i64 t.dport, .int .u32 t.seq, .int .u32 t.ack, .int .i64 t.flags, .int .i64 t.win, .int .i64 t.urg, .slice Ao t.opts.length co, .slice Ab t.body.length cb] 26)) := (Below.refl _ _).alloc (Nat.le_refl _) _
  go_loopw [5, 6] (fun v i wx => ∃ k : Nat, k ≤ t.opts.length ∧ i = .int .i64 k ∧ Row wx (w.heap.size + 1) v (opsB (t.opts.take k)) ∧ tcIs wx w.heap.size t Ao co Ab cb ∧ Below w.heap.size w wx ∧ w.heap.size + 1 ≤ wx.heap.size) (fun _ i _ => t.opts.length - (intOf i).toNat)
  case atStart => exact ⟨0, by omega, rfl, Row.nil_, m0, b0, by simp⟩
  case round =>
    obtain ⟨k, hk, rfl, hrow, hI, hbel, hsz⟩ := hrel
    obtain ⟨c0, c1, c2, c3, c4, c5, c6, c7, c8⟩ := hI.cells
    have HR := Go.Lib.hid hrow
    have HII := Go.Lib.hid hI
    by_cases hlt : k < t.opts.length
    · obtain ⟨ad, Ad, cd, rfl, hb, hc0, hc1, hbs, hdl, hcm, hdn⟩ := HO.out.at_ hlt
      have g := (goodAt_iff _ _ hlt).1 ((rightB_iff _).1 HM.out.opts k hlt)
      have g1 := g.k0
      have g2 := g.k1
      have g3 := olen_take_succ t.opts k hlt
      have g4 := g.n40
      have i1 : (0 : Int) ≤ (k : Int) := by omega
      have i2 : (k : Int) < (t.opts.length : Int) := by omega
      have HE := Go.Lib.hid (opsB_take_succ t.opts k hlt)
      have hlen := opsB_length (t.opts.take k)
      have HD := Go.Lib.hid (hbs.below hbel)
      have HDN := Go.Lib.hid hdn
      have HOP : Hid (opB t.opts[k] = [b8 t.opts[k].kind, b8 (2 + (t.opts[k].data.length : Int))] ++ t.opts[k].data) := Go.Lib.hid rfl
      have e0 := (hbel.cell (p := ad.add (k * 2)) (by rw [block_add]; exact hb)).trans hc0
      have e1 := (hbel.cell (p := { block := (ad.add (k * 2)).block, off := (ad.add (k * 2)).off + 1 }) (by show (ad.add (k * 2)).block < _; rw [block_add]; exact hb)).trans hc1
      have hbb : (ad.add (k * 2)).block < w.heap.size := by rw [block_add]; exact hb
      generalize t.opts[k].kind = kd at *
      generalize t.opts[k].data = da at *
      have d40 : da.length ≤ 38 := by omega
      have u1 := IntWalk.u8_in kd (by omega)
      have u2 := IntWalk.u8_in (2 + (da.length : Int)) (by omega)
      have u3 := IntWalk.i64_in (2 + (da.length : Int)) (by omega)
      have l40 : (opsB (t.opts.take k)).length ≤ 1073741824 := by omega
      have l42 : (opsB (t.opts.take k) ++ [b8 kd, b8 (2 + (da.length : Int))]).length ≤ 1073741824 := by simp; omega
      have l3 : da.length ≤ 1073741824 := by omega
      have hxs : ∀ x ∈ [kd, 2 + (da.length : Int)], 0 ≤ x ∧ x ≤ 255 := by intro x hx; simp at hx; omega
      have K : ∀ Y, Below (w.heap.size + 1) wr Y → Y.cell? ⟨w.heap.size, 0, none⟩ = some (.int .i64 t.sport) ∧ Y.cell? ⟨w.heap.size, 1, none⟩ = some (.int .i64 t.dport) ∧ Y.cell? ⟨w.heap.size, 2, none⟩ = some (.int .u32 t.seq) ∧ Y.cell? ⟨w.heap.size, 3, none⟩ = some (.int .u32 t.ack) ∧ Y.cell? ⟨w.heap.size, 4, none⟩ = some (.int .i64 t.flags) ∧ Y.cell? ⟨w.heap.size, 5, none⟩ = some (.int .i64 t.win) ∧ Y.cell? ⟨w.heap.size, 6, none⟩ = some (.int .i64 t.urg) ∧ Y.cell? ⟨w.heap.size, 7, none⟩ = some (.slice (some ad) t.opts.length co) ∧ Y.cell? ⟨w.heap.size, 8, none⟩ = some (.slice Ab t.body.length cb) ∧ Y.cell? (ad.add (k * 2)) = some (.int .i64 kd) ∧ Y.cell? { block := (ad.add (k * 2)).block, off := (ad.add (k * 2)).off + 1 } = some (.slice Ad da.length cd) ∧ Below (w.heap.size + 1) wr Y := fun Y y => by
        obtain ⟨c0, c1, c2, c3, c4, c5, c6, c7, c8⟩ := (HII.out.keep y (Nat.lt_succ_self _)).cells
        exact ⟨c0, c1, c2, c3, c4, c5, c6, c7, c8, (y.cell (by show (ad.add (k * 2)).block < _; omega)).trans e0, (y.cell (by show (ad.add (k * 2)).block < _; omega)).trans e1, y⟩
      clear hc0 hc1 hbs g g3 g4 hlen hdn e0 e1 hrow hI
      go_upto_region 5 with fail
      clear c0 c1 c2 c3 c4 c5 c6 c7 c8
      have hz := hsz
      try simp only [List.append_eq, List.cons_append, List.nil_append]
      go_region_held3 (fun Y => Y.cell? ⟨w.heap.size, 0, none⟩ = some (.int .i64 t.sport) ∧ Y.cell? ⟨w.heap.size, 1, none⟩ = some (.int .i64 t.dport) ∧ Y.cell? ⟨w.heap.size, 2, none⟩ = some (.int .u32 t.seq) ∧ Y.cell? ⟨w.heap.size, 3, none⟩ = some (.int .u32 t.ack) ∧ Y.cell? ⟨w.heap.size, 4, none⟩ = some (.int .i64 t.flags) ∧ Y.cell? ⟨w.heap.size, 5, none⟩ = some (.int .i64 t.win) ∧ Y.cell? ⟨w.heap.size, 6, none⟩ = some (.int .i64 t.urg) ∧ Y.cell? ⟨w.heap.size, 7, none⟩ = some (.slice (some ad) t.opts.length co) ∧ Y.cell? ⟨w.heap.size, 8, none⟩ = some (.slice Ab t.body.length cb) ∧ Y.cell? (ad.add (k * 2)) = some (.int .i64 kd) ∧ Y.cell? { block := (ad.add (k * 2)).block, off := (ad.add (k * 2)).off + 1 } = some (.slice Ad da.length cd) ∧ Below (w.heap.size + 1) wr Y)
        (exact K _ (by repeat (with_reducible first | assumption | exact Below.refl _ _ | refine below_drew ?_ | refine below_dn ?_ _ | refine Below.alloc ?_ hz _)))
        (first
          | (obtain ⟨_, _, _, _, _, _, _, _, _, _, _, hx5⟩ := ‹_ ∧ _›; refine apS rfl _ _ rfl (w.heap.size + 1) _ (opsB (t.opts.take k)) rfl (HR.out.keep ((below_drew (Below.refl _ _)).alloc (Nat.le_refl _) _)) (wr.heap.size + 1) (some ⟨wr.heap.size, 0, none⟩) 2 2 [b8 kd, b8 (2 + (da.length : Int))] rfl rfl (fun h => by cases h) (lit_bs wr.drew [kd, 2 + (da.length : Int)] hxs) l40 (by decide) (Nat.le_trans hsz hx5.size) ?_; intro v6 w6 hrow6 hb6; have z6 : Below (w.heap.size + 1) wr w6 := hx5.trans hb6)
          | (refine apS rfl _ _ rfl (w.heap.size + 1) _ _ rfl hrow6 w.heap.size Ad _ cd da rfl rfl HDN.out (HD.out.below (z6.mono (Nat.le_succ _))) l42 l3 (Nat.le_trans hsz z6.size) ?_; intro v7 w7 hrow7 hb7; have z7 : Below (w.heap.size + 1) wr w7 := z6.trans hb7))
      all_goals
        clear K
        go_wp2
        go_roundw
        case rel =>
          refine ⟨k + 1, by omega, by go_num, ?_, HII.out.keep z7 (Nat.lt_succ_self _), hbel.trans (z7.mono (Nat.le_succ _)), Nat.le_trans hsz z7.size⟩
          rw [HE.out, HOP.out, ← List.append_assoc]
          exact hrow7
        case measure => simp [intOf]; omega
    · obtain rfl : k = t.opts.length := by omega
      rw [List.take_length] at hrow
      have HR := Go.Lib.hid hrow
      clear hrow hI m0 b0
      go_wp2
      clear c0 c1 c2 c3 c4 c5 c6 c7 c8
      go_loopw [5] (fun v wx => ∃ j : Nat, j ≤ padN (olen t.opts) ∧ Row wx (w.heap.size + 1) v (opsB t.opts ++ List.replicate j 0) ∧ tcIs wx w.heap.size t Ao co Ab cb ∧ Below w.heap.size w wx ∧ w.heap.size + 1 ≤ wx.heap.size) (fun v _ => padN (lenOf v))
      case atStart => exact ⟨0, by omega, by simpa using HR.out, HII.out, hbel, hsz⟩
      case round =>
        clear hbel hsz HII HR
        obtain ⟨j, hj, hrow, hI, hbel, hsz⟩ := hrel
        obtain ⟨A5, c5, rfl, hlc, hcm5, hn5, hb5⟩ := hrow.form
        have hp := padN_spec (olen t.opts)
        have hlen : (opsB t.opts ++ List.replicate j (0 : UInt8)).length = olen t.opts + j := by rw [List.length_append, opsB_length, List.length_replicate]
        obtain ⟨m, hm⟩ : ∃ m : Nat, m = olen t.opts + j := ⟨_, rfl⟩
        have HR := Go.Lib.hid hrow
        have HII := Go.Lib.hid hI
        rw [hlen, ← hm] at hlc
        have HL : Hid ((opsB t.opts ++ List.replicate j (0 : UInt8)).length = m) := Go.Lib.hid (by rw [hlen, hm])
        have l44 : (opsB t.opts ++ List.replicate j (0 : UInt8)).length ≤ 1073741824 := by omega
        have m44 : m ≤ 44 := by omega
        clear hb5
        rw [HL.out]
        rw [HL.out] at HR
        by_cases hmod : m % 4 = 0
        · have t1 : ¬ 0 < (m : Int) % 4 := by omega
          have hj' : j = padN (olen t.opts) := by unfold padN at hj hp ⊢; omega
          subst hj'
          have HP : Hid (Row wr (w.heap.size + 1) (.slice A5 m c5) (padB t.opts)) := HR
          have hthl : thl t.opts = 20 + m := by unfold thl; omega
          have HTH := Go.Lib.hid hthl
          have h60 : 20 + m ≤ 60 := by omega
          have HPL : Hid ((padB t.opts).length = m) := HL
          clear hrow hj hlen hm HR hI t1 hthl
          obtain ⟨c0, c1, c2, c3, c4, c5, c6, c7, c8⟩ := HII.out.cells
          have M1 := HM.out.s0
          have M2 := HM.out.s1
          have M3 := HM.out.d0
          have M4 := HM.out.d1
          have M5 := HM.out.q0
          have M6 := HM.out.q1
          have M7 := HM.out.a0
          have M8 := HM.out.a1
          have M9 := HM.out.w0
          have M10 := HM.out.w1
          have M11 := HM.out.u0
          have M12 := HM.out.u1
          have l9 : (two t.sport ++ two t.dport ++ four t.seq).length ≤ 1073741824 := by simp [two, four]
          have l10 : (two t.sport ++ two t.dport ++ four t.seq ++ four t.ack).length ≤ 1073741824 := by simp [two, four]
          have l11 : (two t.sport ++ two t.dport ++ four t.seq ++ four t.ack ++ [b8 ((20 + (m : Int)) / 4 * 16), b8 t.flags]).length ≤ 1073741824 := by simp [two, four]
          have l12 : (two t.sport ++ two t.dport ++ four t.seq ++ four t.ack ++ [b8 ((20 + (m : Int)) / 4 * 16), b8 t.flags] ++ two t.win).length ≤ 1073741824 := by simp [two, four]
          have l13 : (two t.sport ++ two t.dport ++ four t.seq ++ four t.ack ++ [b8 ((20 + (m : Int)) / 4 * 16), b8 t.flags] ++ two t.win ++ two ck).length ≤ 1073741824 := by simp [two, four]
          have MF1 := HM.out.f0
          have MF2 := HM.out.f1
          have K : ∀ Y, Below wr.heap.size wr Y → Y.cell? ⟨w.heap.size, 0, none⟩ = some (.int .i64 t.sport) ∧ Y.cell? ⟨w.heap.size, 1, none⟩ = some (.int .i64 t.dport) ∧ Y.cell? ⟨w.heap.size, 2, none⟩ = some (.int .u32 t.seq) ∧ Y.cell? ⟨w.heap.size, 3, none⟩ = some (.int .u32 t.ack) ∧ Y.cell? ⟨w.heap.size, 4, none⟩ = some (.int .i64 t.flags) ∧ Y.cell? ⟨w.heap.size, 5, none⟩ = some (.int .i64 t.win) ∧ Y.cell? ⟨w.heap.size, 6, none⟩ = some (.int .i64 t.urg) ∧ Y.cell? ⟨w.heap.size, 7, none⟩ = some (.slice Ao t.opts.length co) ∧ Y.cell? ⟨w.heap.size, 8, none⟩ = some (.slice Ab t.body.length cb) ∧ Below wr.heap.size wr Y := fun Y y => by
            obtain ⟨c0, c1, c2, c3, c4, c5, c6, c7, c8⟩ := (HII.out.keep y (Nat.lt_of_succ_le hsz)).cells
            exact ⟨c0, c1, c2, c3, c4, c5, c6, c7, c8, y⟩
          go_upto_region 8 with fail
          clear c0 c1 c2 c3 c4 c5 c6 c7 c8
          try simp only [List.append_eq, List.cons_append, List.nil_append]
          go_region_held3 (fun Y => Y.cell? ⟨w.heap.size, 0, none⟩ = some (.int .i64 t.sport) ∧ Y.cell? ⟨w.heap.size, 1, none⟩ = some (.int .i64 t.dport) ∧ Y.cell? ⟨w.heap.size, 2, none⟩ = some (.int .u32 t.seq) ∧ Y.cell? ⟨w.heap.size, 3, none⟩ = some (.int .u32 t.ack) ∧ Y.cell? ⟨w.heap.size, 4, none⟩ = some (.int .i64 t.flags) ∧ Y.cell? ⟨w.heap.size, 5, none⟩ = some (.int .i64 t.win) ∧ Y.cell? ⟨w.heap.size, 6, none⟩ = some (.int .i64 t.urg) ∧ Y.cell? ⟨w.heap.size, 7, none⟩ = some (.slice Ao t.opts.length co) ∧ Y.cell? ⟨w.heap.size, 8, none⟩ = some (.slice Ab t.body.length cb) ∧ Below wr.heap.size wr Y)
            (exact K _ (by repeat (with_reducible first | assumption | exact Below.refl _ _ | refine below_drew ?_ | refine below_dn ?_ _)))
            (first
              | (go_at_call_of 47 (Value.int .i64 t.sport); obtain ⟨_, _, _, _, _, _, _, _, _, hx⟩ := ‹_ ∧ _›; refine (rtwo t.sport _ M1 M2).mono ?_; rintro e wA ⟨gA, rfl, hoA, hbA⟩; have zA := stepB hx hbA; dsimp only)
              | (go_at_call_of 47 (Value.int .i64 t.dport); refine (rtwo t.dport _ M3 M4).mono ?_; rintro e wB ⟨gB, rfl, hoB, hbB⟩; have zB := stepB zA hbB; have hoA := hoA.below hbB; dsimp only)
              | (refine apS rfl _ _ rfl wr.heap.size _ (two t.sport) rfl hoA.row wB.heap.size (some ⟨gB, 0, none⟩) 2 2 (two t.dport) rfl rfl (fun h => by cases h) hoB.bs (two_small _) (by decide) zB.size ?_; intro v8 w8 hrow8 hb8; have z8 := zB.trans hb8))
          all_goals
            clear hx hbA hbB hoA hoB zA zB hb8
            have HR8 := Go.Lib.hid hrow8
            have l8 : (two t.sport ++ two t.dport).length ≤ 1073741824 := by simp [two]
            clear hrow8
            go_upto_region 9 with fail
            try simp only [List.append_eq, List.cons_append, List.nil_append]
            go_region_held3 (fun Y => Y.cell? ⟨w.heap.size, 0, none⟩ = some (.int .i64 t.sport) ∧ Y.cell? ⟨w.heap.size, 1, none⟩ = some (.int .i64 t.dport) ∧ Y.cell? ⟨w.heap.size, 2, none⟩ = some (.int .u32 t.seq) ∧ Y.cell? ⟨w.heap.size, 3, none⟩ = some (.int .u32 t.ack) ∧ Y.cell? ⟨w.heap.size, 4, none⟩ = some (.int .i64 t.flags) ∧ Y.cell? ⟨w.heap.size, 5, none⟩ = some (.int .i64 t.win) ∧ Y.cell? ⟨w.heap.size, 6, none⟩ = some (.int .i64 t.urg) ∧ Y.cell? ⟨w.heap.size, 7, none⟩ = some (.slice Ao t.opts.length co) ∧ Y.cell? ⟨w.heap.size, 8, none⟩ = some (.slice Ab t.body.length cb) ∧ Below wr.heap.size wr Y)
              (exact K _ (by repeat (with_reducible first | assumption | exact Below.refl _ _ | refine below_drew ?_ | refine below_dn ?_ _)))
              (first
                | (go_at_call_of 48 (Value.int .u32 t.seq); obtain ⟨_, _, _, _, _, _, _, _, _, hx⟩ := ‹_ ∧ _›; refine (rfour t.seq _ M5 M6).mono ?_; rintro e wA ⟨gA, rfl, hoA, hbA⟩; have zA := stepB hx hbA; have hr8 := HR8.out.drew.keep hbA; dsimp only)
                | (go_at_call_of 48 (Value.int .u32 t.ack); refine (rfour t.ack _ M7 M8).mono ?_; rintro e wB ⟨gB, rfl, hoB, hbB⟩; have zB := stepB z9 hbB; have hr9 := hrow9.keep hbB; dsimp only)
                | (refine apS rfl _ _ rfl wr.heap.size _ (two t.sport ++ two t.dport) rfl hr8 wA.heap.size (some ⟨gA, 0, none⟩) 4 4 (four t.seq) rfl rfl (fun h => by cases h) hoA.bs l8 (by decide) zA.size ?_; intro v9 w9 hrow9 hb9; have z9 := zA.trans hb9)
                | (refine apS rfl _ _ rfl wr.heap.size _ (two t.sport ++ two t.dport ++ four t.seq) rfl hr9 wB.heap.size (some ⟨gB, 0, none⟩) 4 4 (four t.ack) rfl rfl (fun h => by cases h) hoB.bs l9 (by decide) zB.size ?_; intro v10 w10 hrow10 hb10; have z10 := zB.trans hb10))
            all_goals
              clear hx hbA hbB hoA hoB zA zB hb9 hb10 hr8 hr9 hrow9 z9 HR8 z8
              have HR10 := Go.Lib.hid hrow10
              clear hrow10
              obtain ⟨⟨c0, c1, c2, c3, c4, c5, c6, c7, c8⟩, _⟩ : (w10.cell? ⟨w.heap.size, 0, none⟩ = some (.int .i64 t.sport) ∧ w10.cell? ⟨w.heap.size, 1, none⟩ = some (.int .i64 t.dport) ∧ w10.cell? ⟨w.heap.size, 2, none⟩ = some (.int .u32 t.seq) ∧ w10.cell? ⟨w.heap.size, 3, none⟩ = some (.int .u32 t.ack) ∧ w10.cell? ⟨w.heap.size, 4, none⟩ = some (.int .i64 t.flags) ∧ w10.cell? ⟨w.heap.size, 5, none⟩ = some (.int .i64 t.win) ∧ w10.cell? ⟨w.heap.size, 6, none⟩ = some (.int .i64 t.urg) ∧ w10.cell? ⟨w.heap.size, 7, none⟩ = some (.slice Ao t.opts.length co) ∧ w10.cell? ⟨w.heap.size, 8, none⟩ = some (.slice Ab t.body.length cb)) ∧ True := by
                obtain ⟨c0, c1, c2, c3, c4, c5, c6, c7, c8, _⟩ := K _ z10
                exact ⟨⟨c0, c1, c2, c3, c4, c5, c6, c7, c8⟩, trivial⟩
              have u1 := IntWalk.u8_in ((20 + (m : Int)) / 4 * 16) (by omega)
              have u2 := IntWalk.u8_in t.flags (by omega)
              have hxs : ∀ x ∈ [(20 + (m : Int)) / 4 * 16, t.flags], 0 ≤ x ∧ x ≤ 255 := by intro x hx; simp at hx; omega
              have hz10 : wr.heap.size ≤ (w10.alloc (.cells #[.int .u8 ((20 + (m : Int)) / 4 * 16), .int .u8 t.flags] 5)).heap.size := by have := z10.size; simp; omega
              go_wp2_with (at_builtin; refine ap rfl _ _ rfl wr.heap.size _ (two t.sport ++ two t.dport ++ four t.seq ++ four t.ack) rfl (HR10.out.keep ((Below.refl _ _).alloc (Nat.le_refl _) _)) (w10.heap.size + 1) (some ⟨w10.heap.size, 0, none⟩) 2 2 [b8 ((20 + (m : Int)) / 4 * 16), b8 t.flags] rfl rfl (fun h => by cases h) (lit_bs w10 [(20 + (m : Int)) / 4 * 16, t.flags] hxs) l10 (by decide) hz10 ?_; intro v11 w11 hrow11 hb11)
              have z11 := (z10.alloc z10.size (.cells #[.int .u8 ((20 + (m : Int)) / 4 * 16), .int .u8 t.flags] 5)).trans hb11
              have HR11 := Go.Lib.hid hrow11
              clear hrow11 hb11 z10 HR10 hz10 hxs c0 c1 c2 c3 c4 c5 c6 c7 c8 u1 u2
              go_upto_region 11 with fail
              try simp only [List.append_eq, List.cons_append, List.nil_append]
              go_region_held3 (fun Y => Y.cell? ⟨w.heap.size, 0, none⟩ = some (.int .i64 t.sport) ∧ Y.cell? ⟨w.heap.size, 1, none⟩ = some (.int .i64 t.dport) ∧ Y.cell? ⟨w.heap.size, 2, none⟩ = some (.int .u32 t.seq) ∧ Y.cell? ⟨w.heap.size, 3, none⟩ = some (.int .u32 t.ack) ∧ Y.cell? ⟨w.heap.size, 4, none⟩ = some (.int .i64 t.flags) ∧ Y.cell? ⟨w.heap.size, 5, none⟩ = some (.int .i64 t.win) ∧ Y.cell? ⟨w.heap.size, 6, none⟩ = some (.int .i64 t.urg) ∧ Y.cell? ⟨w.heap.size, 7, none⟩ = some (.slice Ao t.opts.length co) ∧ Y.cell? ⟨w.heap.size, 8, none⟩ = some (.slice Ab t.body.length cb) ∧ Below wr.heap.size wr Y)
                (exact K _ (by repeat (with_reducible first | assumption | exact Below.refl _ _ | refine below_drew ?_ | refine below_dn ?_ _)))
                (first
                  | (go_at_call_of 47 (Value.int .i64 t.win); obtain ⟨_, _, _, _, _, _, _, _, _, hx⟩ := ‹_ ∧ _›; refine (rtwo t.win _ M9 M10).mono ?_; rintro e wA ⟨gA, rfl, hoA, hbA⟩; have zA := stepB hx hbA; have hr11 := HR11.out.drew.keep hbA; dsimp only)
                  | (go_at_call_of 47 (Value.int .i64 ck); refine (rtwo ck _ k0 k1).mono ?_; rintro e wB ⟨gB, rfl, hoB, hbB⟩; have zB := stepB z12 hbB; have hr12 := hrow12.keep hbB; dsimp only)
                  | (go_at_call_of 47 (Value.int .i64 t.urg); refine (rtwo t.urg _ M11 M12).mono ?_; rintro e wC ⟨gC, rfl, hoC, hbC⟩; have zC := stepB z13 hbC; have hr13 := hrow13.keep hbC; dsimp only)
                  | (refine apS rfl _ _ rfl wr.heap.size _ (two t.sport ++ two t.dport ++ four t.seq ++ four t.ack ++ [b8 ((20 + (m : Int)) / 4 * 16), b8 t.flags]) rfl hr11 wA.heap.size (some ⟨gA, 0, none⟩) 2 2 (two t.win) rfl rfl (fun h => by cases h) hoA.bs l11 (by decide) zA.size ?_; intro v12 w12 hrow12 hb12; have z12 := zA.trans hb12)
                  | (refine apS rfl _ _ rfl wr.heap.size _ (two t.sport ++ two t.dport ++ four t.seq ++ four t.ack ++ [b8 ((20 + (m : Int)) / 4 * 16), b8 t.flags] ++ two t.win) rfl hr12 wB.heap.size (some ⟨gB, 0, none⟩) 2 2 (two ck) rfl rfl (fun h => by cases h) hoB.bs l12 (by decide) zB.size ?_; intro v13 w13 hrow13 hb13; have z13 := zB.trans hb13)
                  | (refine apS rfl _ _ rfl wr.heap.size _ (two t.sport ++ two t.dport ++ four t.seq ++ four t.ack ++ [b8 ((20 + (m : Int)) / 4 * 16), b8 t.flags] ++ two t.win ++ two ck) rfl hr13 wC.heap.size (some ⟨gC, 0, none⟩) 2 2 (two t.urg) rfl rfl (fun h => by cases h) hoC.bs l13 (by decide) zC.size ?_; intro v14 w14 hrow14 hb14; have z14 := zC.trans hb14))
              all_goals
                clear hx hbA hbB hbC hoA hoB hoC zA zB zC hb12 hb13 hb14 hr11 hr12 hr13 hrow12 hrow13 z12 z13 HR11 z11
                have HR14 := Go.Lib.hid hrow14
                clear hrow14
                have l14 : (two t.sport ++ two t.dport ++ four t.seq ++ four t.ack ++ [b8 ((20 + (m : Int)) / 4 * 16), b8 t.flags] ++ two t.win ++ two ck ++ two t.urg).length ≤ 1073741824 := by simp [two, four]
                have l15 : ((two t.sport ++ two t.dport ++ four t.seq ++ four t.ack ++ [b8 ((20 + (m : Int)) / 4 * 16), b8 t.flags] ++ two t.win ++ two ck ++ two t.urg) ++ padB t.opts).length ≤ 1073741824 := by rw [List.length_append, HPL.out]; simp [two, four]; omega
                have HB5 : Hid (Bs w14 wr.heap.size A5 (padB t.opts)) := Go.Lib.hid (by
                  obtain ⟨A', c', he, _, _, _, hb'⟩ := HP.out.form
                  obtain ⟨rfl, _, rfl⟩ := Value.slice.inj he
                  exact hb'.below z14)
                have j5 : m ≤ 1073741824 := by omega
                have j6 : t.body.length ≤ 1073741824 := by omega
                go_upto_region 12 with fail
                try simp only [List.append_eq, List.cons_append, List.nil_append]
                go_region_held3 (fun Y => Y.cell? ⟨w.heap.size, 0, none⟩ = some (.int .i64 t.sport) ∧ Y.cell? ⟨w.heap.size, 1, none⟩ = some (.int .i64 t.dport) ∧ Y.cell? ⟨w.heap.size, 2, none⟩ = some (.int .u32 t.seq) ∧ Y.cell? ⟨w.heap.size, 3, none⟩ = some (.int .u32 t.ack) ∧ Y.cell? ⟨w.heap.size, 4, none⟩ = some (.int .i64 t.flags) ∧ Y.cell? ⟨w.heap.size, 5, none⟩ = some (.int .i64 t.win) ∧ Y.cell? ⟨w.heap.size, 6, none⟩ = some (.int .i64 t.urg) ∧ Y.cell? ⟨w.heap.size, 7, none⟩ = some (.slice Ao t.opts.length co) ∧ Y.cell? ⟨w.heap.size, 8, none⟩ = some (.slice Ab t.body.length cb) ∧ Below wr.heap.size wr Y)
                  (exact K _ (by repeat (with_reducible first | assumption | exact Below.refl _ _ | refine below_drew ?_ | refine below_dn ?_ _)))
                  (first
                    | (obtain ⟨_, _, _, _, _, _, _, _, _, hx⟩ := ‹_ ∧ _›; refine apS rfl _ _ rfl wr.heap.size _ (two t.sport ++ two t.dport ++ four t.seq ++ four t.ack ++ [b8 ((20 + (m : Int)) / 4 * 16), b8 t.flags] ++ two t.win ++ two ck ++ two t.urg) rfl HR14.out.drew wr.heap.size A5 m c5 (padB t.opts) rfl HPL.out hn5 (HB5.out.below (below_drew (Below.refl _ _))) l14 j5 hx.size ?_; intro v15 w15 hrow15 hb15; have z15 := hx.trans hb15)
                    | (refine apS rfl _ _ rfl wr.heap.size _ ((two t.sport ++ two t.dport ++ four t.seq ++ four t.ack ++ [b8 ((20 + (m : Int)) / 4 * 16), b8 t.flags] ++ two t.win ++ two ck ++ two t.urg) ++ padB t.opts) rfl hrow15 w.heap.size Ab _ cb t.body rfl rfl HN.out (HB.out.below (hbel.trans (z15.mono (Nat.le_of_succ_le hsz)))) l15 j6 z15.size ?_; intro v16 w16 hrow16 hb16; have z16 := z15.trans hb16))
                all_goals
                  clear hx hb15 hrow15 HR14 hb16 z15 z14 K
                  rw [seg_join t ck m HTH.out] at hrow16
                  obtain ⟨g, c, rfl, hown⟩ := hrow16.own (by rw [segB_length]; unfold thl; omega)
                  have hl := segB_length t ck
                  rw [hl] at hown
                  rw [hl]
                  go_wp2
                  go_ret
                  exact ⟨g, c, rfl, World.ownsRow.mono hown (Nat.le_of_succ_le hsz), hbel.trans (z16.mono (Nat.le_of_succ_le hsz))⟩
        · have t1 : 0 < (m : Int) % 4 := by omega
          have hjl : j < padN (olen t.opts) := by
            rcases Nat.lt_or_ge j (padN (olen t.opts)) with h | h
            · exact h
            · have : j = padN (olen t.opts) := by omega
              omega
          have hx0 : ∀ x ∈ [(0 : Int)], 0 ≤ x ∧ x ≤ 255 := by intro x hx; simp at hx; omega
          clear hrow hI hlen
          go_wp2_with (at_builtin; refine ap rfl _ _ rfl (w.heap.size + 1) _ (opsB t.opts ++ List.replicate j 0) rfl (HR.out.keep ((Below.refl _ _).alloc (Nat.le_refl _) _)) (wr.heap.size + 1) (some ⟨wr.heap.size, 0, none⟩) 1 1 [b8 0] rfl rfl (fun h => by cases h) (lit_bs wr [0] hx0) l44 (by decide) (by simp; omega) ?_; intro v6 w6 hrow6 hb6)
          have z6 : Below (w.heap.size + 1) wr w6 := ((Below.refl _ wr).alloc hsz _).trans hb6
          obtain ⟨A6, c6, rfl, _, _, _, _⟩ := hrow6.form
          go_roundw
          case rel =>
            refine ⟨j + 1, hjl, ?_, HII.out.keep z6 (Nat.lt_succ_self _), hbel.trans (z6.mono (Nat.le_succ _)), Nat.le_trans hsz z6.size⟩
            have e : opsB t.opts ++ List.replicate j (0 : UInt8) ++ [b8 0] = opsB t.opts ++ List.replicate (j + 1) 0 := by
              rw [List.append_assoc, List.replicate_succ']
              rfl
            rw [← e]
            exact hrow6
          case measure =>
            show padN (opsB t.opts ++ List.replicate j (0 : UInt8) ++ [b8 0]).length < padN m
            rw [List.length_append, HL.out]
            unfold padN
            simp
            omega
end Go.Proofs.Ytghgemmbbedopaa

