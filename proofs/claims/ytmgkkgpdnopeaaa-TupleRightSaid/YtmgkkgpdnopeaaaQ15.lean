/- Lemmas, several texts in one. -/
import Derived.Test.YtmgkkgpdnopeaaaQ06
import Derived.Test.YtmgkkgpdnopeaaaQ02
import Derived.Test.YtmgkkgpdnopeaaaQ14
import Derived.Test.YtmgkkgpdnopeaaaQ03
import Derived.Test.YtmgkkgpdnopeaaaRows
import Derived.Test.YtmgkkgpdnopeaaaQ01
import Derived.WalkKit
import Derived.ProofKit
import Derived.OpenShut
import Derived.Below
import Derived.Deep.QuietTactic
import Derived.Deep.RegionHeld3
import Derived.BigQuiet
import Derived.OwnWalk
import Derived.Laws.BytesString
/- Contracts of the document's own answers for package tuple: Of. -/
namespace Go.Proofs.Ytmgkkgpdnopeaaa
open Go.ChangeShapes Go.WideShapes Go.ChangeAt Go.RowKit
set_option linter.unusedVariables false
set_option linter.unusedSimpArgs false

theorem info_i9 : (Try.prog.info? 3).map (·.size) = some 1 := by kernel_rfl
theorem results_ct9 {P : Program} {fn : Func} {p u : Tmp} {t1 : TypeId} (h : fn.results = #[.cell p t1, .tmp u]) (tmps : Array Value) (w : World) (g1 : Nat) (c1 : List Value) (d1 : TypeDesc)
    (hp : tmps.getD p undef = .pointer (some ⟨g1, 0, none⟩)) (h1 : Bxo w g1 t1 c1)
    (u1 : P.underlying t1 = some d1) (r1 : (match d1 with | .struct _ | .array _ _ => true | _ => false) = true) (i1 : (P.info? t1).map (·.size) = some c1.length) :
    (results fn tmps).run P w = .ok (.tuple #[.agg c1.toArray, tmps.getD u undef]) w := by
  have hp' : tmps[p]?.getD undef = .pointer (some ⟨g1, 0, none⟩) := by simpa using hp
  have e1 := run_loadVar_row (P := P) w g1 t1 t1 c1.toArray (0, 0) d1 h1 u1 r1 (by simpa using i1)
  simp [results, h, hp', asAddr, e1]
set_option maxRecDepth 100000 in
set_option maxHeartbeats 16000000 in
theorem rof9 (p : Pk) (Ao : Option Addr) (co : Nat) (Ab : Option Addr) (cb : Nat) (w : World) (q : Tp × Int) (hq : ofP p = q) (hp : PkIn w p Ao co Ab cb) (hb : p.body.length ≤ 16777216) :
    Calls Try.prog 10 #[pkV p Ao co Ab cb] w fun e w' => e = .returned (.tuple #[tpV q.1, .int .i64 q.2]) ∧ Below w.heap.size w w' := by
  have HQ := Go.Lib.hid hq
  obtain ⟨s0, s1, d0, d1⟩ := hp.rng
  have HBS := Go.Lib.hid hp.bbs
  have hbl := hp.blen
  have hbc := hp.bcap
  have y0 : Below w.heap.size w ((w.alloc (oPk p Ao co Ab cb)).alloc (oTp tp0)) := below_alloc (below_alloc (Below.refl _ _) (Nat.le_refl _) _) (by simp) _
  have h1 := (Bxo.made w 25 (pkL p Ao co Ab cb)).alloc (oTp tp0)
  have h2 : Bxo ((w.alloc (oPk p Ao co Ab cb)).alloc (oTp tp0)) (w.heap.size + 1) 27 (tpL tp0) := by
    have := Bxo.made (w.alloc (oPk p Ao co Ab cb)) 27 (tpL tp0)
    simpa using this
  have hz : ((w.alloc (oPk p Ao co Ab cb)).alloc (oTp tp0)).heap.size = w.heap.size + 2 := by simp
  clear hq hp
  go_enter Try.func10, Try.ntmps10
  go_upto_region 1 with fail
  generalize ((w.alloc (oPk p Ao co Ab cb)).alloc (oTp tp0)) = W at *
  have c6 := h1.cell 6 rfl
  have c7 := h1.cell 7 rfl
  have c8 := h1.cell 8 rfl
  go_upto_region 2 with fail
  have H1 : Hid (Bxo (W.alloc (oTp ⟨p.proto, p.src, 0, p.dst, 0⟩)) w.heap.size 25 (pkL p Ao co Ab cb)) := Go.Lib.hid (h1.alloc _)
  have H2 : Hid (Bxo (W.alloc (oTp ⟨p.proto, p.src, 0, p.dst, 0⟩)) (w.heap.size + 1) 27 (tpL tp0)) := Go.Lib.hid (h2.alloc _)
  have x2 : Below w.heap.size w (W.alloc (oTp ⟨p.proto, p.src, 0, p.dst, 0⟩)) := below_alloc y0 y0.size _
  have z2 : (W.alloc (oTp ⟨p.proto, p.src, 0, p.dst, 0⟩)).heap.size = w.heap.size + 3 := by simp [hz]
  have H3 : Hid (Bxo (W.alloc (oTp ⟨p.proto, p.src, 0, p.dst, 0⟩)) (w.heap.size + 2) 27 (tpL ⟨p.proto, p.src, 0, p.dst, 0⟩)) := Go.Lib.hid (by have h := Bxo.made W 27 (tpL ⟨p.proto, p.src, 0, p.dst, 0⟩); rw [hz] at h; exact h)
  clear h1 h2 y0 c6 c7 c8
  generalize W.alloc (oTp ⟨p.proto, p.src, 0, p.dst, 0⟩) = w2 at *
  try rw [hz]
  clear hz
  have c3 := H1.out.cell 3 rfl
  have c4 := H1.out.cell 4 rfl
  try simp only [Act.put, List.setIfInBounds_toArray, List.set_cons_zero, List.set_cons_succ]
  cases hmf : p.mf
  · rw [hmf] at c3
    by_cases hoff : p.off = 0
    · have t4 : (p.off != 0) = false := by simp [hoff]
      have HNP : Hid (¬ (p.mf = true ∨ p.off ≠ 0)) := Go.Lib.hid (by rw [hmf, hoff]; simp)
      go_upto_region 5 with fail
      clear c3 c4 hoff hmf t4
      have c6 := H1.out.cell 6 rfl
      have c7 := H1.out.cell 7 rfl
      have c8 := H1.out.cell 8 rfl
      have c10 := H1.out.cell 10 rfl
      by_cases hp6 : p.proto = 6
      · obtain ⟨v, hv⟩ : ∃ v, prsT p.src p.dst p.body = v := ⟨_, rfl⟩
        have HV := Go.Lib.hid hv
        clear hv
        have t6 : (p.proto == 6) = true := by simpa using hp6
        go_upto_region 8 with (go_at_call 24; refine (rparseT p.src p.dst Ab p.body.length cb p.body w2 ⟨s0, s1⟩ ⟨d0, d1⟩ rfl ((HBS.out.below x2).more x2.size) hb hbl hbc).mono ?_; rw [HV.out]; rintro e w3 ⟨A5, c5, A4, c4, rfl, hg⟩; have y3 := hg.below; clear hg; dsimp only)
        have x3 := x2.trans (y3.mono x2.size)
        have z3 := y3.size
        have K2 := Go.Lib.hid (H2.out.keep y3 (by omega))
        have K3 := Go.Lib.hid (H3.out.keep y3 (by omega))
        have hsl : w3.heap.size < (w3.alloc (.cells #[.int .i64 v.2.sport, .int .i64 v.2.dport, .int .u32 v.2.seq, .int .u32 v.2.ack, .int .i64 v.2.flags, .int .i64 v.2.win, .int .i64 v.2.urg, .slice A5 v.2.opts.length c5, .slice A4 v.2.body.length c4] 54)).heap.size := by simp
        have B6 := Go.Lib.hid (Bxo.made w3 54 [.int .i64 v.2.sport, .int .i64 v.2.dport, .int .u32 v.2.seq, .int .u32 v.2.ack, .int .i64 v.2.flags, .int .i64 v.2.win, .int .i64 v.2.urg, .slice A5 v.2.opts.length c5, .slice A4 v.2.body.length c4])
        have K2 := Go.Lib.hid (K2.out.alloc (.cells #[.int .i64 v.2.sport, .int .i64 v.2.dport, .int .u32 v.2.seq, .int .u32 v.2.ack, .int .i64 v.2.flags, .int .i64 v.2.win, .int .i64 v.2.urg, .slice A5 v.2.opts.length c5, .slice A4 v.2.body.length c4] 54))
        have K3 := Go.Lib.hid (K3.out.alloc (.cells #[.int .i64 v.2.sport, .int .i64 v.2.dport, .int .u32 v.2.seq, .int .u32 v.2.ack, .int .i64 v.2.flags, .int .i64 v.2.win, .int .i64 v.2.urg, .slice A5 v.2.opts.length c5, .slice A4 v.2.body.length c4] 54))
        have x4 : Below w.heap.size w (w3.alloc (.cells #[.int .i64 v.2.sport, .int .i64 v.2.dport, .int .u32 v.2.seq, .int .u32 v.2.ack, .int .i64 v.2.flags, .int .i64 v.2.win, .int .i64 v.2.urg, .slice A5 v.2.opts.length c5, .slice A4 v.2.body.length c4] 54)) := below_alloc x3 x3.size _
        clear x3 y3 H2 H3 c6 c7 c8 c10
        obtain ⟨f, u⟩ := v
        dsimp only at *
        generalize w3.alloc (.cells #[.int .i64 u.sport, .int .i64 u.dport, .int .u32 u.seq, .int .u32 u.ack, .int .i64 u.flags, .int .i64 u.win, .int .i64 u.urg, .slice A5 u.opts.length c5, .slice A4 u.body.length c4] 54) = W4 at *
        generalize w3.heap.size = g6 at *
        try simp only [Act.put, List.setIfInBounds_toArray, List.set_cons_zero, List.set_cons_succ]
        refine wp_region_held_drew (S := fun Y => Bxo Y g6 54 [.int .i64 u.sport, .int .i64 u.dport, .int .u32 u.seq, .int .u32 u.ack, .int .i64 u.flags, .int .i64 u.win, .int .i64 u.urg, .slice A5 u.opts.length c5, .slice A4 u.body.length c4]) (by kernel_rfl) ?_ (fun hHeld => ?_)
        · exact B6.out.drew
        have K2 := Go.Lib.hid K2.out.drew
        have K3 := Go.Lib.hid K3.out.drew
        refine wpAnyH_take (i := 0) (oi := ⟨some 41, _, _, _, _, _⟩) (v := ?_) rfl (by kernel_rfl) (by kernel_rfl) (by kernel_rfl) (fun _ _ _ h => h) (Or.inl ⟨by rfl, ?_⟩) (by assumption) ?_
        rotate_left
        · intro w hSw; (try dsimp only at hSw); go_simp; (try with_reducible rfl)
        try simp only [Act.put, List.setIfInBounds_toArray, List.set_cons_zero, List.set_cons_succ]
        refine wpAnyH_take (i := 1) (oi := ⟨some 42, _, _, _, _, _⟩) (v := ?_) rfl (by kernel_rfl) (by kernel_rfl) (by kernel_rfl) (fun _ _ _ h => h) (Or.inl ⟨by rfl, ?_⟩) (by assumption) ?_
        rotate_left
        · intro w hSw; have a0 := hSw.cell 0 rfl; (try dsimp only at hSw); go_simp; (try with_reducible rfl)
        try simp only [Act.put, List.setIfInBounds_toArray, List.set_cons_zero, List.set_cons_succ]
        refine wpAnyH_take (i := 2) (oi := ⟨some 43, _, _, _, _, _⟩) (v := ?_) rfl (by kernel_rfl) (by kernel_rfl) (by kernel_rfl) (fun _ _ _ h => h) (Or.inl ⟨by rfl, ?_⟩) (by assumption) ?_
        rotate_left
        · intro w hSw; (try dsimp only at hSw); go_simp; (try with_reducible rfl)
        try simp only [Act.put, List.setIfInBounds_toArray, List.set_cons_zero, List.set_cons_succ]
        refine wpAnyH_take (i := 3) (oi := ⟨some 44, _, _, _, _, _⟩) (v := ?_) rfl (by kernel_rfl) (by kernel_rfl) (by kernel_rfl) (fun _ _ _ h => h) (Or.inl ⟨by rfl, ?_⟩) (by assumption) ?_
        rotate_left
        · intro w hSw; have a1 := hSw.cell 1 rfl; (try dsimp only at hSw); go_simp; (try with_reducible rfl)
        try simp only [Act.put, List.setIfInBounds_toArray, List.set_cons_zero, List.set_cons_succ]
        refine wpAnyH_take (i := 4) (oi := ⟨some 45, _, _, _, _, _⟩) (v := ?_) rfl (by kernel_rfl) (by kernel_rfl) (by kernel_rfl) (fun _ _ _ h => h) (Or.inl ⟨by rfl, ?_⟩) (by assumption) ?_
        rotate_left
        · intro w hSw; (try dsimp only at hSw); go_simp; (try with_reducible rfl)
        try simp only [Act.put, List.setIfInBounds_toArray, List.set_cons_zero, List.set_cons_succ]
        refine wpAnyH_take (i := 5) (oi := ⟨some 46, _, _, _, _, _⟩) (v := ?_) rfl (by kernel_rfl) (by kernel_rfl) (by kernel_rfl) (fun _ _ _ h => h) (Or.inl ⟨by rfl, ?_⟩) (by assumption) ?_
        rotate_left
        · intro w hSw; (try dsimp only at hSw); go_simp; (try with_reducible rfl)
        try simp only [Act.put, List.setIfInBounds_toArray, List.set_cons_zero, List.set_cons_succ]
        refine wpAnyH_ready (rs := [6]) (by kernel_rfl) (by simp) (AllReadyH.cons (o := ⟨none, _, _, _, _, _⟩) rfl (fun Kc hKc => ?_) AllReadyH.nil)
        rw [if_pos (by rfl)]
        refine step_store_any 3 _ _ rfl (w.heap.size + 2) 2 27 _ [.int .i64 u.sport] _ rfl rfl rfl K3.out info_i9 (by show 2 + 1 ≤ 5; omega) (by simp [Value.oneCell']) ?_; intro w5 hb5 ho5; have HB5 := Go.Lib.hid hb5; clear hb5
        refine hKc.out _ _ (hHeld.only ho5 (by omega)) (fun hHeld => ?_)
        clear hKc Kc
        try simp only [Act.put, List.setIfInBounds_toArray, List.set_cons_zero, List.set_cons_succ]
        refine wpAnyH_take (i := 7) (oi := ⟨some 47, _, _, _, _, _⟩) (v := ?_) rfl (by kernel_rfl) (by kernel_rfl) (by kernel_rfl) (fun _ _ _ h => h) (Or.inl ⟨by rfl, ?_⟩) (by assumption) ?_
        rotate_left
        · intro w hSw; (try dsimp only at hSw); go_simp; (try with_reducible rfl)
        try simp only [Act.put, List.setIfInBounds_toArray, List.set_cons_zero, List.set_cons_succ]
        refine wpAnyH_ready (rs := [8]) (by kernel_rfl) (by simp) (AllReadyH.cons (o := ⟨none, _, _, _, _, _⟩) rfl (fun Kc hKc => ?_) AllReadyH.nil)
        rw [if_pos (by rfl)]
        refine step_store_any 3 _ _ rfl (w.heap.size + 2) 4 27 _ [.int .i64 u.dport] _ rfl rfl rfl HB5.out info_i9 (by show 4 + 1 ≤ 5; omega) (by simp [Value.oneCell']) ?_; intro w7 hb7 ho7; have HB7 := Go.Lib.hid hb7; clear hb7
        refine hKc.out _ _ (hHeld.only ho7 (by omega)) (fun hHeld => ?_)
        clear hKc Kc
        try simp only [Act.put, List.setIfInBounds_toArray, List.set_cons_zero, List.set_cons_succ]
        refine wpAnyH_take (i := 9) (oi := ⟨some 5, _, _, _, _, _⟩) (v := ?_) rfl (by kernel_rfl) (by kernel_rfl) (by kernel_rfl) (fun _ _ _ h => h) (Or.inl ⟨by rfl, ?_⟩) (by assumption) ?_
        rotate_left
        · intro w hSw; (try dsimp only at hSw); go_simp; (try with_reducible rfl)
        try simp only [Act.put, List.setIfInBounds_toArray, List.set_cons_zero, List.set_cons_succ]
        refine wpAnyH_done (by kernel_rfl) ?_ _
        have xF := (x4.drew.trans (ho5.below (by omega))).trans (ho7.below (by omega))
        have K2 := Go.Lib.hid ((K2.out.only ho5 (by omega)).only ho7 (by omega))
        have K3 : Hid (Bxo w7 (w.heap.size + 2) 27 (tpL ⟨p.proto, p.src, u.sport, p.dst, u.dport⟩)) := Go.Lib.hid HB7.out
        by_cases hf : f = 0
        · have tf : (f != 0) = false := by simp [hf]
          have HE : Hid (q = (⟨p.proto, p.src, u.sport, p.dst, u.dport⟩, 0)) := Go.Lib.hid (by rw [← HQ.out]; unfold ofP; rw [if_neg HNP.out, if_pos hp6, HV.out]; dsimp only; rw [if_pos hf])
          clear hf
          go_wp2_with (first
            | (refine wpList_load_box rfl 27 _ rfl (w.heap.size + 2) rfl (tpL ⟨p.proto, p.src, u.sport, p.dst, u.dport⟩) _ K3.out Try.underlying27 rfl info_tp ?_)
            | (refine wpList_store_any rfl 27 _ _ rfl (w.heap.size + 1) 0 27 _ (tpL ⟨p.proto, p.src, u.sport, p.dst, u.dport⟩) _ rfl rfl rfl K2.out info_tp (by show 0 + 5 ≤ 5; omega) (tp_one _) ?_; intro wF hbF hoF; have HBF := Go.Lib.hid hbF; clear hbF))
          exact bodyPost_ret (v := .tuple #[.agg (tpL ⟨p.proto, p.src, u.sport, p.dst, u.dport⟩).toArray, .int .i64 0]) (results_ct9 (p := 2) (u := 3) rfl _ _ (w.heap.size + 1) _ _ rfl HBF.out Try.underlying27 rfl info_tp) rfl ⟨by rw [HE.out], xF.trans (hoF.below (show w.heap.size ≤ w.heap.size + 1 by omega))⟩
        · have tf : (f != 0) = true := by simpa using hf
          have HE : Hid (q = (tp0, f)) := Go.Lib.hid (by rw [← HQ.out]; unfold ofP; rw [if_neg HNP.out, if_pos hp6, HV.out]; dsimp only; rw [if_neg hf])
          clear hf
          go_wp2_with (refine wpList_store_any rfl 27 _ _ rfl (w.heap.size + 1) 0 27 _ (tpL tp0) _ rfl rfl rfl K2.out info_tp (by show 0 + 5 ≤ 5; omega) (tp_one tp0) ?_; intro wF hbF hoF; have HBF := Go.Lib.hid hbF; clear hbF)
          exact bodyPost_ret (v := .tuple #[.agg (tpL tp0).toArray, .int .i64 f]) (results_ct9 (p := 2) (u := 3) rfl _ _ (w.heap.size + 1) _ _ rfl HBF.out Try.underlying27 rfl info_tp) rfl ⟨by rw [HE.out], xF.trans (hoF.below (show w.heap.size ≤ w.heap.size + 1 by omega))⟩
      · by_cases hp17 : p.proto = 17
        · obtain ⟨v, hv⟩ : ∃ v, prsU p.src p.dst p.body = v := ⟨_, rfl⟩
          have HV := Go.Lib.hid hv
          clear hv
          have t6 : (p.proto == 6) = false := by simpa using hp6
          have t17 : (p.proto == 17) = true := by simpa using hp17
          go_upto_region 11 with (go_at_call 25; refine (rparseU p.src p.dst Ab p.body.length cb p.body w2 ⟨s0, s1⟩ ⟨d0, d1⟩ rfl ((HBS.out.below x2).more x2.size) hb hbl hbc).mono ?_; rw [HV.out]; rintro e w3 ⟨A4, c4, rfl, hg⟩; have y3 := hg.below; clear hg; dsimp only)
          have x3 := x2.trans (y3.mono x2.size)
          have z3 := y3.size
          have K2 := Go.Lib.hid (H2.out.keep y3 (by omega))
          have K3 := Go.Lib.hid (H3.out.keep y3 (by omega))
          have hsl : w3.heap.size < (w3.alloc (.cells #[.int .i64 v.2.sport, .int .i64 v.2.dport, .bool v.2.nosum, .slice A4 v.2.body.length c4] 50)).heap.size := by simp
          have B6 := Go.Lib.hid (Bxo.made w3 50 [.int .i64 v.2.sport, .int .i64 v.2.dport, .bool v.2.nosum, .slice A4 v.2.body.length c4])
          have K2 := Go.Lib.hid (K2.out.alloc (.cells #[.int .i64 v.2.sport, .int .i64 v.2.dport, .bool v.2.nosum, .slice A4 v.2.body.length c4] 50))
          have K3 := Go.Lib.hid (K3.out.alloc (.cells #[.int .i64 v.2.sport, .int .i64 v.2.dport, .bool v.2.nosum, .slice A4 v.2.body.length c4] 50))
          have x4 : Below w.heap.size w (w3.alloc (.cells #[.int .i64 v.2.sport, .int .i64 v.2.dport, .bool v.2.nosum, .slice A4 v.2.body.length c4] 50)) := below_alloc x3 x3.size _
          clear x3 y3 H2 H3 c6 c7 c8 c10
          obtain ⟨f, u⟩ := v
          dsimp only at *
          generalize w3.alloc (.cells #[.int .i64 u.sport, .int .i64 u.dport, .bool u.nosum, .slice A4 u.body.length c4] 50) = W4 at *
          generalize w3.heap.size = g6 at *
          try simp only [Act.put, List.setIfInBounds_toArray, List.set_cons_zero, List.set_cons_succ]
          refine wp_region_held_drew (S := fun Y => Bxo Y g6 50 [.int .i64 u.sport, .int .i64 u.dport, .bool u.nosum, .slice A4 u.body.length c4]) (by kernel_rfl) ?_ (fun hHeld => ?_)
          · exact B6.out.drew
          have K2 := Go.Lib.hid K2.out.drew
          have K3 := Go.Lib.hid K3.out.drew
          refine wpAnyH_take (i := 0) (oi := ⟨some 60, _, _, _, _, _⟩) (v := ?_) rfl (by kernel_rfl) (by kernel_rfl) (by kernel_rfl) (fun _ _ _ h => h) (Or.inl ⟨by rfl, ?_⟩) (by assumption) ?_
          rotate_left
          · intro w hSw; (try dsimp only at hSw); go_simp; (try with_reducible rfl)
          try simp only [Act.put, List.setIfInBounds_toArray, List.set_cons_zero, List.set_cons_succ]
          refine wpAnyH_take (i := 1) (oi := ⟨some 61, _, _, _, _, _⟩) (v := ?_) rfl (by kernel_rfl) (by kernel_rfl) (by kernel_rfl) (fun _ _ _ h => h) (Or.inl ⟨by rfl, ?_⟩) (by assumption) ?_
          rotate_left
          · intro w hSw; have a0 := hSw.cell 0 rfl; (try dsimp only at hSw); go_simp; (try with_reducible rfl)
          try simp only [Act.put, List.setIfInBounds_toArray, List.set_cons_zero, List.set_cons_succ]
          refine wpAnyH_take (i := 2) (oi := ⟨some 62, _, _, _, _, _⟩) (v := ?_) rfl (by kernel_rfl) (by kernel_rfl) (by kernel_rfl) (fun _ _ _ h => h) (Or.inl ⟨by rfl, ?_⟩) (by assumption) ?_
          rotate_left
          · intro w hSw; (try dsimp only at hSw); go_simp; (try with_reducible rfl)
          try simp only [Act.put, List.setIfInBounds_toArray, List.set_cons_zero, List.set_cons_succ]
          refine wpAnyH_take (i := 3) (oi := ⟨some 63, _, _, _, _, _⟩) (v := ?_) rfl (by kernel_rfl) (by kernel_rfl) (by kernel_rfl) (fun _ _ _ h => h) (Or.inl ⟨by rfl, ?_⟩) (by assumption) ?_
          rotate_left
          · intro w hSw; have a1 := hSw.cell 1 rfl; (try dsimp only at hSw); go_simp; (try with_reducible rfl)
          try simp only [Act.put, List.setIfInBounds_toArray, List.set_cons_zero, List.set_cons_succ]
          refine wpAnyH_take (i := 4) (oi := ⟨some 64, _, _, _, _, _⟩) (v := ?_) rfl (by kernel_rfl) (by kernel_rfl) (by kernel_rfl) (fun _ _ _ h => h) (Or.inl ⟨by rfl, ?_⟩) (by assumption) ?_
          rotate_left
          · intro w hSw; (try dsimp only at hSw); go_simp; (try with_reducible rfl)
          try simp only [Act.put, List.setIfInBounds_toArray, List.set_cons_zero, List.set_cons_succ]
          refine wpAnyH_take (i := 5) (oi := ⟨some 65, _, _, _, _, _⟩) (v := ?_) rfl (by kernel_rfl) (by kernel_rfl) (by kernel_rfl) (fun _ _ _ h => h) (Or.inl ⟨by rfl, ?_⟩) (by assumption) ?_
          rotate_left
          · intro w hSw; (try dsimp only at hSw); go_simp; (try with_reducible rfl)
          try simp only [Act.put, List.setIfInBounds_toArray, List.set_cons_zero, List.set_cons_succ]
          refine wpAnyH_ready (rs := [6]) (by kernel_rfl) (by simp) (AllReadyH.cons (o := ⟨none, _, _, _, _, _⟩) rfl (fun Kc hKc => ?_) AllReadyH.nil)
          rw [if_pos (by rfl)]
          refine step_store_any 3 _ _ rfl (w.heap.size + 2) 2 27 _ [.int .i64 u.sport] _ rfl rfl rfl K3.out info_i9 (by show 2 + 1 ≤ 5; omega) (by simp [Value.oneCell']) ?_; intro w5 hb5 ho5; have HB5 := Go.Lib.hid hb5; clear hb5
          refine hKc.out _ _ (hHeld.only ho5 (by omega)) (fun hHeld => ?_)
          clear hKc Kc
          try simp only [Act.put, List.setIfInBounds_toArray, List.set_cons_zero, List.set_cons_succ]
          refine wpAnyH_take (i := 7) (oi := ⟨some 66, _, _, _, _, _⟩) (v := ?_) rfl (by kernel_rfl) (by kernel_rfl) (by kernel_rfl) (fun _ _ _ h => h) (Or.inl ⟨by rfl, ?_⟩) (by assumption) ?_
          rotate_left
          · intro w hSw; (try dsimp only at hSw); go_simp; (try with_reducible rfl)
          try simp only [Act.put, List.setIfInBounds_toArray, List.set_cons_zero, List.set_cons_succ]
          refine wpAnyH_ready (rs := [8]) (by kernel_rfl) (by simp) (AllReadyH.cons (o := ⟨none, _, _, _, _, _⟩) rfl (fun Kc hKc => ?_) AllReadyH.nil)
          rw [if_pos (by rfl)]
          refine step_store_any 3 _ _ rfl (w.heap.size + 2) 4 27 _ [.int .i64 u.dport] _ rfl rfl rfl HB5.out info_i9 (by show 4 + 1 ≤ 5; omega) (by simp [Value.oneCell']) ?_; intro w7 hb7 ho7; have HB7 := Go.Lib.hid hb7; clear hb7
          refine hKc.out _ _ (hHeld.only ho7 (by omega)) (fun hHeld => ?_)
          clear hKc Kc
          try simp only [Act.put, List.setIfInBounds_toArray, List.set_cons_zero, List.set_cons_succ]
          refine wpAnyH_take (i := 9) (oi := ⟨some 5, _, _, _, _, _⟩) (v := ?_) rfl (by kernel_rfl) (by kernel_rfl) (by kernel_rfl) (fun _ _ _ h => h) (Or.inl ⟨by rfl, ?_⟩) (by assumption) ?_
          rotate_left
          · intro w hSw; (try dsimp only at hSw); go_simp; (try with_reducible rfl)
          try simp only [Act.put, List.setIfInBounds_toArray, List.set_cons_zero, List.set_cons_succ]
          refine wpAnyH_done (by kernel_rfl) ?_ _
          have xF := (x4.drew.trans (ho5.below (by omega))).trans (ho7.below (by omega))
          have K2 := Go.Lib.hid ((K2.out.only ho5 (by omega)).only ho7 (by omega))
          have K3 : Hid (Bxo w7 (w.heap.size + 2) 27 (tpL ⟨p.proto, p.src, u.sport, p.dst, u.dport⟩)) := Go.Lib.hid HB7.out
          by_cases hf : f = 0
          · have tf : (f != 0) = false := by simp [hf]
            have HE : Hid (q = (⟨p.proto, p.src, u.sport, p.dst, u.dport⟩, 0)) := Go.Lib.hid (by rw [← HQ.out]; unfold ofP; rw [if_neg HNP.out, if_neg hp6, if_pos hp17, HV.out]; dsimp only; rw [if_pos hf])
            clear hf
            go_wp2_with (first
              | (refine wpList_load_box rfl 27 _ rfl (w.heap.size + 2) rfl (tpL ⟨p.proto, p.src, u.sport, p.dst, u.dport⟩) _ K3.out Try.underlying27 rfl info_tp ?_)
              | (refine wpList_store_any rfl 27 _ _ rfl (w.heap.size + 1) 0 27 _ (tpL ⟨p.proto, p.src, u.sport, p.dst, u.dport⟩) _ rfl rfl rfl K2.out info_tp (by show 0 + 5 ≤ 5; omega) (tp_one _) ?_; intro wF hbF hoF; have HBF := Go.Lib.hid hbF; clear hbF))
            exact bodyPost_ret (v := .tuple #[.agg (tpL ⟨p.proto, p.src, u.sport, p.dst, u.dport⟩).toArray, .int .i64 0]) (results_ct9 (p := 2) (u := 3) rfl _ _ (w.heap.size + 1) _ _ rfl HBF.out Try.underlying27 rfl info_tp) rfl ⟨by rw [HE.out], xF.trans (hoF.below (show w.heap.size ≤ w.heap.size + 1 by omega))⟩
          · have tf : (f != 0) = true := by simpa using hf
            have HE : Hid (q = (tp0, f)) := Go.Lib.hid (by rw [← HQ.out]; unfold ofP; rw [if_neg HNP.out, if_neg hp6, if_pos hp17, HV.out]; dsimp only; rw [if_neg hf])
            clear hf
            go_wp2_with (refine wpList_store_any rfl 27 _ _ rfl (w.heap.size + 1) 0 27 _ (tpL tp0) _ rfl rfl rfl K2.out info_tp (by show 0 + 5 ≤ 5; omega) (tp_one tp0) ?_; intro wF hbF hoF; have HBF := Go.Lib.hid hbF; clear hbF)
            exact bodyPost_ret (v := .tuple #[.agg (tpL tp0).toArray, .int .i64 f]) (results_ct9 (p := 2) (u := 3) rfl _ _ (w.heap.size + 1) _ _ rfl HBF.out Try.underlying27 rfl info_tp) rfl ⟨by rw [HE.out], xF.trans (hoF.below (show w.heap.size ≤ w.heap.size + 1 by omega))⟩
        · by_cases hp1 : p.proto = 1
          · obtain ⟨v, hv⟩ : ∃ v, prsI p.body = v := ⟨_, rfl⟩
            have HV := Go.Lib.hid hv
            clear hv
            have t6 : (p.proto == 6) = false := by simpa using hp6
            have t17 : (p.proto == 17) = false := by simpa using hp17
            have t1 : (p.proto == 1) = true := by simpa using hp1
            go_upto_region 14 with (go_at_call 26; refine (rparseI Ab p.body.length cb p.body w2 rfl ((HBS.out.below x2).more x2.size) hb hbl hbc).mono ?_; rw [HV.out]; rintro e w3 ⟨A4, c4, rfl, hg⟩; have y3 := hg.below; have hr0 := hg.is.r0; have hr1 := hg.is.r1; clear hg; dsimp only)
            have x3 := x2.trans (y3.mono x2.size)
            have z3 := y3.size
            have K2 := Go.Lib.hid (H2.out.keep y3 (by omega))
            have K3 := Go.Lib.hid (H3.out.keep y3 (by omega))
            have hsl : w3.heap.size < (w3.alloc (.cells #[.int .i64 v.2.type, .int .i64 v.2.code, .int .u32 v.2.rest, .slice A4 v.2.body.length c4] 43)).heap.size := by simp
            have B6 := Go.Lib.hid (Bxo.made w3 43 [.int .i64 v.2.type, .int .i64 v.2.code, .int .u32 v.2.rest, .slice A4 v.2.body.length c4])
            have K2 := Go.Lib.hid (K2.out.alloc (.cells #[.int .i64 v.2.type, .int .i64 v.2.code, .int .u32 v.2.rest, .slice A4 v.2.body.length c4] 43))
            have K3 := Go.Lib.hid (K3.out.alloc (.cells #[.int .i64 v.2.type, .int .i64 v.2.code, .int .u32 v.2.rest, .slice A4 v.2.body.length c4] 43))
            have x4 : Below w.heap.size w (w3.alloc (.cells #[.int .i64 v.2.type, .int .i64 v.2.code, .int .u32 v.2.rest, .slice A4 v.2.body.length c4] 43)) := below_alloc x3 x3.size _
            clear x3 y3 H2 H3 c6 c7 c8 c10
            obtain ⟨f, u⟩ := v
            dsimp only at *
            generalize w3.alloc (.cells #[.int .i64 u.type, .int .i64 u.code, .int .u32 u.rest, .slice A4 u.body.length c4] 43) = W4 at *
            generalize w3.heap.size = g6 at *
            clear t6 t17
            have d0' := B6.out.cell 0 rfl
            have d2' := B6.out.cell 2 rfl
            have e1 : Int.tdiv u.rest 65536 = u.rest / 65536 := Int.tdiv_eq_ediv_of_nonneg hr0
            have e2 : IntKind.u32.wrap (Int.tdiv u.rest 65536) = u.rest / 65536 := by rw [e1]; exact IntWalk.u32_in _ (by omega)
            have e3 : IntKind.u32.wrap (u.rest / 65536) = u.rest / 65536 := IntWalk.u32_in _ (by omega)
            have e4 : IntKind.i64.wrap (u.rest / 65536) = u.rest / 65536 := IntWalk.i64_in _ (by omega)
            obtain ⟨cnd, hcn⟩ : ∃ cnd : Bool, (decide (f = 0) && !asksT u.type) = cnd := ⟨_, rfl⟩
            have HC := Go.Lib.hid hcn
            clear hcn
            go_upto_region 15 with fail
            go_cut [97] (fun b wx => b = .bool cnd ∧ wx = W4)
            case first =>
              by_cases hf : f = 0
              · have tf : (f == 0) = true := by simpa using hf
                by_cases k0 : u.type = 0
                · have g0 : (u.type != 0) = false := by simp [k0]
                  go_wp2_with fail
                  go_meet
                  exact ⟨by rw [← HC.out]; simp [asksT, k0], rfl⟩
                · have g0 : (u.type != 0) = true := by simpa using k0
                  by_cases k8 : u.type = 8
                  · have g8 : (u.type != 8) = false := by simp [k8]
                    go_wp2_with fail
                    go_meet
                    exact ⟨by rw [← HC.out]; simp [asksT, k8], rfl⟩
                  · have g8 : (u.type != 8) = true := by simpa using k8
                    by_cases k13 : u.type = 13
                    · have g13 : (u.type != 13) = false := by simp [k13]
                      go_wp2_with fail
                      go_meet
                      exact ⟨by rw [← HC.out]; simp [asksT, k13], rfl⟩
                    · have g13 : (u.type != 13) = true := by simpa using k13
                      by_cases k14 : u.type = 14
                      · have g14 : (u.type != 14) = false := by simp [k14]
                        go_wp2_with fail
                        go_meet
                        exact ⟨by rw [← HC.out]; simp [asksT, k14], rfl⟩
                      · have g14 : (u.type != 14) = true := by simpa using k14
                        go_wp2_with fail
                        go_meet
                        exact ⟨by rw [← HC.out]; simp [asksT, k0, k8, k13, k14, hf], rfl⟩
              · have tf : (f == 0) = false := by simpa using hf
                go_wp2_with fail
                go_meet
                exact ⟨by rw [← HC.out]; simp [hf], rfl⟩
            case rest =>
              obtain ⟨rfl, rfl⟩ := hcut
              have xF0 := x4
              cases hcc : cnd
              · by_cases hf : f = 0
                · have HE : Hid (q = (⟨p.proto, p.src, u.rest / 65536, p.dst, u.rest / 65536⟩, 0)) := Go.Lib.hid (by
                    have h := HC.out
                    rw [hcc, hf] at h
                    have ha : asksT u.type = true := by simpa using h
                    rw [← HQ.out]; unfold ofP; rw [if_neg HNP.out, if_neg hp6, if_neg hp17, if_pos hp1, HV.out]; dsimp only; rw [if_pos hf, if_pos ha])
                  have tf : (f != 0) = false := by simp [hf]
                  clear hf hcc
                  go_wp2_with (first
                    | (refine wpList_store_any rfl 3 _ _ rfl (w.heap.size + 2) 2 27 _ [.int .i64 (u.rest / 65536)] _ rfl rfl rfl K3.out info_i9 (by show 2 + 1 ≤ 5; omega) (by simp [Value.oneCell']) ?_; intro w5 hb5 ho5; have HB5 := Go.Lib.hid hb5; clear hb5; have e52 := HB5.out.cell 2 rfl)
                    | (refine wpList_store_any rfl 3 _ _ rfl (w.heap.size + 2) 4 27 _ [.int .i64 (u.rest / 65536)] _ rfl rfl rfl HB5.out info_i9 (by show 4 + 1 ≤ 5; omega) (by simp [Value.oneCell']) ?_; intro w7 hb7 ho7; have HB7 : Hid (Bxo w7 (w.heap.size + 2) 27 (tpL ⟨p.proto, p.src, u.rest / 65536, p.dst, u.rest / 65536⟩)) := Go.Lib.hid hb7; clear hb7; have K7 := Go.Lib.hid ((K2.out.only ho5 (by omega)).only ho7 (by omega)))
                    | (refine wpList_load_box rfl 27 _ rfl (w.heap.size + 2) rfl (tpL ⟨p.proto, p.src, u.rest / 65536, p.dst, u.rest / 65536⟩) _ HB7.out Try.underlying27 rfl info_tp ?_)
                    | (refine wpList_store_any rfl 27 _ _ rfl (w.heap.size + 1) 0 27 _ (tpL ⟨p.proto, p.src, u.rest / 65536, p.dst, u.rest / 65536⟩) _ rfl rfl rfl K7.out info_tp (by show 0 + 5 ≤ 5; omega) (tp_one _) ?_; intro wF hbF hoF; have HBF := Go.Lib.hid hbF; clear hbF))
                  have xF := (xF0.trans (ho5.below (by omega))).trans (ho7.below (by omega))
                  exact bodyPost_ret (v := .tuple #[.agg (tpL ⟨p.proto, p.src, u.rest / 65536, p.dst, u.rest / 65536⟩).toArray, .int .i64 0]) (results_ct9 (p := 2) (u := 3) rfl _ _ (w.heap.size + 1) _ _ rfl HBF.out Try.underlying27 rfl info_tp) rfl ⟨by rw [HE.out], xF.trans (hoF.below (show w.heap.size ≤ w.heap.size + 1 by omega))⟩
                · have HE : Hid (q = (tp0, f)) := Go.Lib.hid (by rw [← HQ.out]; unfold ofP; rw [if_neg HNP.out, if_neg hp6, if_neg hp17, if_pos hp1, HV.out]; dsimp only; rw [if_neg hf])
                  have tf : (f != 0) = true := by simpa using hf
                  clear hf hcc
                  go_wp2_with (first
                    | (refine wpList_store_any rfl 3 _ _ rfl (w.heap.size + 2) 2 27 _ [.int .i64 (u.rest / 65536)] _ rfl rfl rfl K3.out info_i9 (by show 2 + 1 ≤ 5; omega) (by simp [Value.oneCell']) ?_; intro w5 hb5 ho5; have HB5 := Go.Lib.hid hb5; clear hb5; have e52 := HB5.out.cell 2 rfl)
                    | (refine wpList_store_any rfl 3 _ _ rfl (w.heap.size + 2) 4 27 _ [.int .i64 (u.rest / 65536)] _ rfl rfl rfl HB5.out info_i9 (by show 4 + 1 ≤ 5; omega) (by simp [Value.oneCell']) ?_; intro w7 hb7 ho7; have HB7 : Hid (Bxo w7 (w.heap.size + 2) 27 (tpL ⟨p.proto, p.src, u.rest / 65536, p.dst, u.rest / 65536⟩)) := Go.Lib.hid hb7; clear hb7; have K7 := Go.Lib.hid ((K2.out.only ho5 (by omega)).only ho7 (by omega)))
                    | (refine wpList_store_any rfl 27 _ _ rfl (w.heap.size + 1) 0 27 _ (tpL tp0) _ rfl rfl rfl K7.out info_tp (by show 0 + 5 ≤ 5; omega) (tp_one tp0) ?_; intro wF hbF hoF; have HBF := Go.Lib.hid hbF; clear hbF))
                  have xF := (xF0.trans (ho5.below (by omega))).trans (ho7.below (by omega))
                  exact bodyPost_ret (v := .tuple #[.agg (tpL tp0).toArray, .int .i64 f]) (results_ct9 (p := 2) (u := 3) rfl _ _ (w.heap.size + 1) _ _ rfl HBF.out Try.underlying27 rfl info_tp) rfl ⟨by rw [HE.out], xF.trans (hoF.below (show w.heap.size ≤ w.heap.size + 1 by omega))⟩
              · have HE : Hid (q = (tp0, 9)) := Go.Lib.hid (by
                  have h := HC.out
                  rw [hcc] at h
                  have ha : f = 0 ∧ asksT u.type = false := by simpa using h
                  rw [← HQ.out]; unfold ofP; rw [if_neg HNP.out, if_neg hp6, if_neg hp17, if_pos hp1, HV.out]; dsimp only; rw [if_pos ha.1, if_neg (by rw [ha.2]; simp)])
                clear hcc
                go_wp2_with (first
                  | (refine wpList_store_any rfl 3 _ _ rfl (w.heap.size + 2) 2 27 _ [.int .i64 (u.rest / 65536)] _ rfl rfl rfl K3.out info_i9 (by show 2 + 1 ≤ 5; omega) (by simp [Value.oneCell']) ?_; intro w5 hb5 ho5; have HB5 := Go.Lib.hid hb5; clear hb5; have e52 := HB5.out.cell 2 rfl)
                  | (refine wpList_store_any rfl 3 _ _ rfl (w.heap.size + 2) 4 27 _ [.int .i64 (u.rest / 65536)] _ rfl rfl rfl HB5.out info_i9 (by show 4 + 1 ≤ 5; omega) (by simp [Value.oneCell']) ?_; intro w7 hb7 ho7; have HB7 : Hid (Bxo w7 (w.heap.size + 2) 27 (tpL ⟨p.proto, p.src, u.rest / 65536, p.dst, u.rest / 65536⟩)) := Go.Lib.hid hb7; clear hb7; have K7 := Go.Lib.hid ((K2.out.only ho5 (by omega)).only ho7 (by omega)))
                  | (refine wpList_store_any rfl 27 _ _ rfl (w.heap.size + 1) 0 27 _ (tpL tp0) _ rfl rfl rfl K7.out info_tp (by show 0 + 5 ≤ 5; omega) (tp_one tp0) ?_; intro wF hbF hoF; have HBF := Go.Lib.hid hbF; clear hbF))
                have xF := (xF0.trans (ho5.below (by omega))).trans (ho7.below (by omega))
                exact bodyPost_ret (v := .tuple #[.agg (tpL tp0).toArray, .int .i64 9]) (results_ct9 (p := 2) (u := 3) rfl _ _ (w.heap.size + 1) _ _ rfl HBF.out Try.underlying27 rfl info_tp) rfl ⟨by rw [HE.out], xF.trans (hoF.below (show w.heap.size ≤ w.heap.size + 1 by omega))⟩

          · have HE : Hid (q = (tp0, 9)) := Go.Lib.hid (by rw [← HQ.out]; unfold ofP; rw [if_neg HNP.out, if_neg hp6, if_neg hp17, if_neg hp1])
            have t6 : (p.proto == 6) = false := by simpa using hp6
            have t17 : (p.proto == 17) = false := by simpa using hp17
            have t1 : (p.proto == 1) = false := by simpa using hp1
            go_wp2_with (refine wpList_store_any rfl 27 _ _ rfl (w.heap.size + 1) 0 27 _ (tpL tp0) _ rfl rfl rfl H2.out info_tp (by show 0 + 5 ≤ 5; omega) (tp_one tp0) ?_; intro wF hbF hoF; have HBF := Go.Lib.hid hbF; clear hbF)
            exact bodyPost_ret (v := .tuple #[.agg (tpL tp0).toArray, .int .i64 9]) (results_ct9 (p := 2) (u := 3) rfl _ _ (w.heap.size + 1) _ _ rfl HBF.out Try.underlying27 rfl info_tp) rfl ⟨by rw [HE.out], x2.trans (hoF.below (show w.heap.size ≤ w.heap.size + 1 by omega))⟩
    · have t4 : (p.off != 0) = true := by simpa using hoff
      have HE : Hid (q = (tp0, 7)) := Go.Lib.hid (by rw [← HQ.out]; unfold ofP; rw [if_pos (.inr hoff)])
      go_wp2_with (refine wpList_store_any rfl 27 _ _ rfl (w.heap.size + 1) 0 27 _ (tpL tp0) _ rfl rfl rfl H2.out info_tp (by show 0 + 5 ≤ 5; omega) (tp_one tp0) ?_; intro wF hbF hoF; have HBF := Go.Lib.hid hbF; clear hbF)
      exact bodyPost_ret (v := .tuple #[.agg (tpL tp0).toArray, .int .i64 7]) (results_ct9 (p := 2) (u := 3) rfl _ _ (w.heap.size + 1) _ _ rfl HBF.out Try.underlying27 rfl info_tp) rfl ⟨by rw [HE.out], x2.trans (hoF.below (show w.heap.size ≤ w.heap.size + 1 by omega))⟩
  · rw [hmf] at c3
    have HE : Hid (q = (tp0, 7)) := Go.Lib.hid (by rw [← HQ.out]; unfold ofP; rw [if_pos (.inl hmf)])
    go_wp2_with (refine wpList_store_any rfl 27 _ _ rfl (w.heap.size + 1) 0 27 _ (tpL tp0) _ rfl rfl rfl H2.out info_tp (by show 0 + 5 ≤ 5; omega) (tp_one tp0) ?_; intro wF hbF hoF; have HBF := Go.Lib.hid hbF; clear hbF)
    exact bodyPost_ret (v := .tuple #[.agg (tpL tp0).toArray, .int .i64 7]) (results_ct9 (p := 2) (u := 3) rfl _ _ (w.heap.size + 1) _ _ rfl HBF.out Try.underlying27 rfl info_tp) rfl ⟨by rw [HE.out], x2.trans (hoF.below (show w.heap.size ≤ w.heap.size + 1 by omega))⟩
end Go.Proofs.Ytmgkkgpdnopeaaa

/- The contract of bytes.Equal. -/
namespace Go.Proofs.Ytmgkkgpdnopeaaa
open Go.ChangeShapes Go.WideShapes Go.ChangeAt Go.RowKit
set_option linter.unusedVariables false

/-- the string of these bytes. -/
def strB (l : List UInt8) : ByteArray := (l.map fun b => (b.toNat : Int)).foldl (fun r n => r.push (UInt8.ofNat n.toNat)) ByteArray.empty
theorem push_data (l : List UInt8) : ∀ r : ByteArray, ((l.map fun b => (b.toNat : Int)).foldl (fun r n => r.push (UInt8.ofNat n.toNat)) r).data.toList = r.data.toList ++ l := by
  induction l with
  | nil => intro r; simp
  | cons a l ih =>
    intro r
    simp only [List.map_cons, List.foldl_cons]
    rw [ih]
    simp [ByteArray.push]
theorem strB_data (l : List UInt8) : (strB l).data.toList = l := by
  unfold strB
  rw [push_data]
  rfl
theorem strB_eq (a b : List UInt8) : ((strB a).toList == (strB b).toList) = (a == b) := by
  rw [ByteArray.toList_eq, ByteArray.toList_eq, strB_data, strB_data]

theorem conv_bytes (A : Option Addr) (n c : Nat) (l : List UInt8) (B : Nat) (w : World) (hn : l.length = n) (h : Bs w B A l) :
    (convert 23 9 (.slice A n c)).run Try.prog w = .ok (.string (strB l)) w := by
  subst hn
  rw [run_convert_bytes_string w _ _ 5 A l.length c Try.underlying23 Try.underlying5 Try.underlying9]
  rcases A with _ | ad
  · have hl : l = [] := by
      rcases h with h | ⟨ad, h, _⟩
      · exact h
      · cases h
    subst hl
    simp [Conv.bytesToString, strB]
  · have := run_bytesToString (P := Try.prog) w ad l.length c (l.map fun b => (b.toNat : Int)) ?_
    · exact this
    · have hr := run_loadCells_list (P := Try.prog) w ad ((l.map fun b => (b.toNat : Int)).map (Value.int .u8)) (fun j v hj => by
        rcases h with h | ⟨ad', e, _, hc⟩
        · subst h; simp at hj
        · cases e
          rw [List.map_map, List.getElem?_map, Option.map_eq_some_iff] at hj
          obtain ⟨b, hb, rfl⟩ := hj
          exact hc j b hb)
      simpa using hr

end Go.Proofs.Ytmgkkgpdnopeaaa
