/- The contract of the document's own Tell. -/
import Derived.Deep.DeepCutAuto
import Derived.Deep.CutBlock
import Derived.Test.YtndhiopfkgdhcaaIcmpR4
import Derived.Test.YtndhiopfkgdhcaaIcmpA8
namespace Go.Proofs.Ytndhiopfkgdhcaa
open Go.ChangeShapes Go.WideShapes Go.ChangeAt Go.RowKit
set_option linter.unusedVariables false
set_option linter.unusedSimpArgs false

set_option maxRecDepth 100000 in
set_option maxHeartbeats 8000000 in
theorem rtell (kind code rest : Int) (A : Option Addr) (n c : Nat) (l : List UInt8) (w : World) (r0 : 0 ≤ rest) (r1 : rest ≤ 4294967295) (hn : l.length = n) (h : Bs w w.heap.size A l) (hn2 : n ≤ 16777216) (hnc : n ≤ c) (hc2 : c ≤ 9223372036854775807) :
    Calls Try.prog 25 #[.int .i64 kind, .int .i64 code, .int .u32 rest, .slice A n c] w (ParsedI w (tellI kind code rest l)) := by
  obtain ⟨i0_, hi, hz0, hz1, hz2⟩ := info_parts info_byte
  have x0 : Below (w.heap.size + 1) (Zi w) (Zi w) := Below.refl _ _
  obtain ⟨⟨z0, z1, z2, z3⟩, zf⟩ := zi_of x0
  have y0 := Zi.below x0
  have s0 := Zi.size x0
  obtain ⟨zk, hzk⟩ : ∃ zk : Bool, errK kind = zk := ⟨_, rfl⟩
  have HZ := Go.Lib.hid hzk
  have HN := Go.Lib.hid hn
  have HB := Go.Lib.hid h
  clear hzk hn h
  cases zk
  · have HP := Go.Lib.hid (tell_arg (rest := rest) (l := l) (code := code) (.inl HZ.out))
    go_enter Try.func25, Try.ntmps25
    go_upto_region 1 with fail
    rw [zi_is]
    generalize hW : Zi w = W at *
    go_wp2_with fail
    refine (rerrI kind _ false HZ.out).mono ?_
    rintro e w' ⟨rfl, rfl⟩
    dsimp only
    go_wp2
    refine bodyPost_ret (v := .tuple #[.agg #[.int .i64 0, .int .i64 0, .int .u32 0, .slice none 0 0], .int .i64 1]) ?_ rfl (parsedI_err HP.out rfl ?_)
    · simp [results, Try.results25, go_sem, z0, z1, z2, z3]
    · exact below_s4 y0 (Nat.le_refl _) _ _ _ _
  by_cases hc : upB code 255 = true
  · have HP := Go.Lib.hid (tell_on (rest := rest) (l := l) HZ.out hc)
    unfold upB at hc
    simp only [Bool.and_eq_true, decide_eq_true_eq] at hc
    obtain ⟨k0, k1⟩ := hc
    have k2 : ¬ code < 0 := by omega
    have k3 : ¬ (255 : Int) < code := by omega
    clear k0 k1
    go_enter Try.func25, Try.ntmps25
    go_upto_region 1 with fail
    rw [zi_is]
    generalize hW : Zi w = W at *
    go_wp2_with fail
    refine (rerrI kind _ true HZ.out).mono ?_
    rintro e w' ⟨rfl, rfl⟩
    dsimp only
    go_wp2_with fail
    refine (rparse A n c l W HN.out ((HB.out.below y0).more y0.size) hn2 hnc).mono ?_
    rintro e w1 ⟨Ao, co, Ab, cb, rfl, hg⟩
    have HMAY := Go.Lib.hid (prs_may l).1
    have HSZ := Go.Lib.hid (prs_size l)
    obtain ⟨f, hf⟩ : ∃ f, (prs l).1 = f := ⟨_, rfl⟩
    obtain ⟨p, hp⟩ : ∃ p, (prs l).2 = p := ⟨_, rfl⟩
    rw [hp] at hg HMAY
    rw [hf, hp] at HP HSZ
    rw [hf, hp]
    dsimp only
    clear hf hp z0 z1 z2 z3 zf k2 k3
    have x1 := x0.trans (hg.below.mono s0)
    have s1 : w.heap.size + 1 ≤ w1.heap.size := Nat.le_trans s0 hg.below.size
    go_upto_region 4 with fail
    have C2 := c11_made w1 (.int .i64 p.tos) (.int .i64 p.id) (.bool p.df) (.bool p.mf) (.int .i64 p.off) (.int .i64 p.ttl) (.int .i64 p.proto) (.int .u32 p.src) (.int .u32 p.dst) (.slice Ao p.opts.length co) (.slice Ab p.body.length cb)
    have y2 : Below w1.heap.size w1 (w1.alloc (.cells #[.int .i64 p.tos, .int .i64 p.id, .bool p.df, .bool p.mf, .int .i64 p.off, .int .i64 p.ttl, .int .i64 p.proto, .int .u32 p.src, .int .u32 p.dst, .slice Ao p.opts.length co, .slice Ab p.body.length cb] 43)) := (Below.refl _ _).alloc (Nat.le_refl _) _
    have s2 : w1.heap.size < (w1.alloc (.cells #[.int .i64 p.tos, .int .i64 p.id, .bool p.df, .bool p.mf, .int .i64 p.off, .int .i64 p.ttl, .int .i64 p.proto, .int .u32 p.src, .int .u32 p.dst, .slice Ao p.opts.length co, .slice Ab p.body.length cb] 43)).heap.size := by simp
    generalize w1.alloc (.cells #[.int .i64 p.tos, .int .i64 p.id, .bool p.df, .bool p.mf, .int .i64 p.off, .int .i64 p.ttl, .int .i64 p.proto, .int .u32 p.src, .int .u32 p.dst, .slice Ao p.opts.length co, .slice Ab p.body.length cb] 43) = w2 at *
    have x2 := x1.trans (y2.mono s1)
    have xx2 : Below (w.heap.size + 1) (Zi w) w2 := by rw [hW]; exact x2
    obtain ⟨⟨z0, z1, z2, z3⟩, zf⟩ := zi_of xx2
    have yy2 := Zi.below xx2
    obtain ⟨c0, c1, c2, c3, c4, c5, c6, c7, c8, c9, c10⟩ := C2
    by_cases hf0 : f = 0
    · subst hf0
      have hsz := HSZ.out rfl
      rw [HN.out] at hsz
      have mo := HMAY.out.o0
      have mp := HMAY.out.p40
      have HBB : Hid (Bs w2 w2.heap.size Ab p.body) := Go.Lib.hid ((hg.bbs.below y2).more y2.size)
      obtain ⟨b, hb⟩ : ∃ b : Bool, decide (0 < p.off ∨ ownErr p = true) = b := ⟨_, rfl⟩
      have HBV := Go.Lib.hid hb
      clear hb HSZ HMAY hg
      go_upto_region 6 with fail
      go_cut [55] (fun s wx => s = .bool b ∧ w2 = wx)
      case first =>
        have hb := HBV.out
        by_cases ho : 0 < p.off
        · rw [decide_eq_true (.inl ho)] at hb
          subst hb
          go_wp2
          go_meet
          exact ⟨rfl, rfl⟩
        by_cases h1 : p.proto = 1
        · have t1 : (p.proto == 1) = true := by simpa using h1
          by_cases h2 : 0 < p.body.length
          · have hoe : ownErr p = errK (g8 p.body 0) := by unfold ownErr; rw [t1, decide_eq_true h2]; rfl
            obtain ⟨ad, rfl, hlt, hcell⟩ := g8_cell HBB.out (k := 0) h2
            rw [add_zero] at hcell
            have g0 := g8_lo p.body 0
            have g1 := g8_hi p.body 0
            have e0 := IntWalk.i64_in (g8 p.body 0) (by omega)
            have i0 : (0 : Int) < (p.body.length : Int) := by omega
            obtain ⟨z, hz⟩ : ∃ z : Bool, errK (g8 p.body 0) = z := ⟨_, rfl⟩
            have HZ0 := Go.Lib.hid hz
            have hbz : b = z := by rw [← hb, hoe, hz]; cases z <;> simp [ho]
            subst hbz
            clear hb hoe hz h1
            generalize g8 p.body 0 = x at *
            go_wp2_with fail
            refine (rerrI x _ _ HZ0.out).mono ?_
            rintro e w' ⟨rfl, rfl⟩
            dsimp only
            go_wp2
            go_meet
            exact ⟨rfl, rfl⟩
          · have hoe : ownErr p = false := by unfold ownErr; rw [decide_eq_false h2]; simp
            have hbz : b = false := by rw [← hb, hoe]; simp [ho]
            subst hbz
            have i0 : ¬ (0 : Int) < (p.body.length : Int) := by omega
            clear hb hoe h1 h2
            go_wp2
            go_meet
            exact ⟨rfl, rfl⟩
        · have t1 : (p.proto == 1) = false := by simpa using h1
          have hoe : ownErr p = false := by unfold ownErr; rw [t1]; simp
          have hbz : b = false := by rw [← hb, hoe]; simp [ho]
          subst hbz
          clear hb hoe h1
          go_wp2
          go_meet
          exact ⟨rfl, rfl⟩
      case rest =>
      obtain ⟨rfl, rfl⟩ := hcut
      have hbv := HBV.out
      cases b
      · rw [decide_eq_false_iff_not] at hbv
        have HP0 : Hid (tellI kind code rest l = (0, ⟨kind, code, rest, l.take (20 + p.opts.length + min 8 p.body.length)⟩)) := Go.Lib.hid (by rw [HP.out, if_neg (by simp), if_neg hbv])
        clear hbv HP HBV
        have hk : ∃ k : Nat, ((8 : Int) < (p.body.length : Int) ∧ k = 8 ∨ ¬ (8 : Int) < (p.body.length : Int) ∧ k = p.body.length) := by
          by_cases h : 8 < p.body.length
          · exact ⟨8, .inl ⟨by omega, rfl⟩⟩
          · exact ⟨_, .inr ⟨by omega, rfl⟩⟩
        obtain ⟨k, hk⟩ := hk
        have hkm : min 8 p.body.length = k := by omega
        have hkb : k ≤ p.body.length := by omega
        have HPF : Hid (tellI kind code rest l = (0, ⟨kind, code, rest, l.take (20 + p.opts.length + k)⟩)) := Go.Lib.hid (by rw [HP0.out, hkm])
        clear HP0 hkm
        go_upto_if 61 with fail
        go_cut [12] (fun s wx => s = .int .i64 (k : Int) ∧ w2 = wx)
        case first =>
          rcases hk with ⟨g1, rfl⟩ | ⟨g1, rfl⟩
          all_goals
            go_wp2
            go_meet
            exact ⟨rfl, rfl⟩
        case rest =>
        obtain ⟨rfl, rfl⟩ := hcut
        clear hk
        obtain ⟨ad, rfl, hlt, _⟩ := g8_cells HB.out (by rw [HN.out]; omega)
        obtain ⟨S, hS⟩ : ∃ S : Nat, 20 + p.opts.length + k = S := ⟨_, rfl⟩
        rw [hS] at HPF
        have hSn : S ≤ n := by omega
        have e1 := IntWalk.i64_in ((20 : Int) + (p.opts.length : Int)) (by omega)
        have e2 : IntKind.i64.wrap ((20 : Int) + (p.opts.length : Int) + (k : Int)) = (S : Int) := by rw [IntWalk.i64_in _ (by omega)]; omega
        have s3 : w2.heap.size ≠ w1.heap.size := by omega
        have s4 : w1.heap.size ≠ w2.heap.size := by omega
        have i0 : (0 : Int) ≤ (S : Int) := by omega
        have i1 : (S : Int) ≤ (c : Int) := by omega
        have HTL : Hid ((l.take S).length = S) := Go.Lib.hid (by rw [List.length_take, HN.out]; show min _ _ = _; omega)
        clear hS hsz hkb
        go_wp2_with (at_builtin; refine wpList_copy_rd rfl _ _ 23 rfl 5 i0_ (.int .u8 0) 1 Try.underlying23 hi hz0 hz1 hz2 rfl rfl w.heap.size (some ad) S c ((l.take S).map bv) rfl (by simpa using HTL.out) (fun h => by cases h) ((HB.out.below yy2).take S).rd yy2.size (bv_one _) (by unfold maxLen; omega) (by omega) ?_; intro v3 w3 hown3 hb3; obtain ⟨A3, c3', rfl, hg3⟩ := own_gives hown3 hb3; have x3 := xx2.trans (hb3.mono (Zi.size xx2)); clear z0 z1 z2 z3 zf; obtain ⟨⟨z0, z1, z2, z3⟩, zf⟩ := zi_of x3)
        have f3 : ∀ ad, A3 = some ad → w.heap.size < ad.block := fun ad e => Nat.lt_of_lt_of_le (Nat.lt_succ_self _) (Nat.le_trans (Zi.size xx2) (hg3.fresh ad e))
        have HF : Hid (GivesIc w (set4 w3 w.heap.size (.int .i64 kind) (.int .i64 code) (.int .u32 rest) (.slice A3 S c3')) ⟨kind, code, rest, l.take S⟩ A3 c3') := Go.Lib.hid (gives_s4 ⟨r0, r1, hg3.len, hg3.cap, hg3.nil, hg3.bs⟩ f3 (Zi.below x3) _ _ _ _)
        refine bodyPost_ret (v := .tuple #[.agg #[.int .i64 kind, .int .i64 code, .int .u32 rest, .slice A3 S c3'], .int .i64 0]) ?_ rfl (parsedI_ok HPF.out (by rw [icV, HTL.out]) HF.out)
        simp [results, Try.results25, go_sem, z0, z1, z2, z3]
      · rw [decide_eq_true_eq] at hbv
        have HP14 : Hid (tellI kind code rest l = (14, Ic.empty)) := Go.Lib.hid (by rw [HP.out, if_neg (by simp), if_pos hbv])
        clear hbv HP HBV
        go_wp2
        refine bodyPost_ret (v := .tuple #[.agg #[.int .i64 0, .int .i64 0, .int .u32 0, .slice none 0 0], .int .i64 14]) ?_ rfl (parsedI_err HP14.out rfl ?_)
        · simp [results, Try.results25, go_sem, z0, z1, z2, z3]
        · exact below_s4 yy2 (Nat.le_refl _) _ _ _ _
    · have HPf : Hid (tellI kind code rest l = (f, Ic.empty)) := Go.Lib.hid (by rw [HP.out, if_pos hf0])
      have t4 : (f != 0) = true := by simpa using hf0
      clear hf0 HP
      go_wp2
      refine bodyPost_ret (v := .tuple #[.agg #[.int .i64 0, .int .i64 0, .int .u32 0, .slice none 0 0], .int .i64 f]) ?_ rfl (parsedI_err HPf.out rfl ?_)
      · simp [results, Try.results25, go_sem, z0, z1, z2, z3]
      · exact below_s4 yy2 (Nat.le_refl _) _ _ _ _
  · have HP := Go.Lib.hid (tell_arg (rest := rest) (l := l) (kind := kind) (.inr (by simpa using hc)))
    have hc' : code < 0 ∨ (¬ code < 0 ∧ (255 : Int) < code) := by
      unfold upB at hc
      simp only [Bool.and_eq_true, decide_eq_true_eq] at hc
      omega
    clear hc
    rcases hc' with k2 | ⟨k2, k3⟩
    all_goals
      go_enter Try.func25, Try.ntmps25
      go_upto_region 1 with fail
      rw [zi_is]
      generalize hW : Zi w = W at *
      go_wp2_with fail
      refine (rerrI kind _ true HZ.out).mono ?_
      rintro e w' ⟨rfl, rfl⟩
      dsimp only
      go_wp2
      refine bodyPost_ret (v := .tuple #[.agg #[.int .i64 0, .int .i64 0, .int .u32 0, .slice none 0 0], .int .i64 1]) ?_ rfl (parsedI_err HP.out rfl ?_)
      · simp [results, Try.results25, go_sem, z0, z1, z2, z3]
      · exact below_s4 y0 (Nat.le_refl _) _ _ _ _
end Go.Proofs.Ytndhiopfkgdhcaa
